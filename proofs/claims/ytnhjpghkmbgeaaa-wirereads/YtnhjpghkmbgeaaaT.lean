import Derived.Test.YtnhjpghkmbgeaaaQ
namespace Go.Proofs.Ytnhjpghkmbgeaaa
open Go.RowKit
set_option linter.unusedVariables false

/-- A slice of bytes, as it may be handed in. -/
structure Sl (w : World) (a : Option Addr) (m cap : Nat) (zs : List Int) : Prop where
  len : zs.length = m
  bytes : Bytes w a zs
  u8 : U8 zs
  le : m ≤ cap
  cm : cap ≤ 9223372036854775807
  bd : m ≤ 140737488351232
  nil : a = none → cap = 0

theorem Sl.kept {S : Nat → Prop} {w w' : World} {a : Option Addr} {m cap : Nat} {zs : List Int} (h : Sl w a m cap zs) (hk : Kept S w w') (hS : ∀ k, k < w.heap.size → ¬ S k) : Sl w' a m cap zs :=
  ⟨h.len, fun i hi => by
    obtain ⟨b, off, rfl, hc⟩ := h.bytes i hi
    exact ⟨b, off, rfl, hk.cell hc (hS b (World.block_lt_of_cell? w _ hc))⟩, h.u8, h.le, h.cm, h.bd, h.nil⟩
theorem Sl.no {w w' : World} {a : Option Addr} {m cap : Nat} {zs : List Int} (h : Sl w a m cap zs) (hk : Kept No w w') : Sl w' a m cap zs := h.kept hk (fun _ _ e => e)
/-- It stays where only the blocks of S have turned, and its own is none of them. -/
theorem Sl.off {S : Nat → Prop} {w w' : World} {a : Option Addr} {m cap : Nat} {zs : List Int} (h : Sl w a m cap zs) (hk : Kept S w w') (hS : ∀ k, At a k → ¬ S k) : Sl w' a m cap zs :=
  ⟨h.len, h.bytes.kept hk (fun b off e => hS b ⟨_, e, rfl⟩), h.u8, h.le, h.cm, h.bd, h.nil⟩

theorem OwnS.sl {w : World} {base : Nat} {a : Option Addr} {m cap : Nat} {zs : List Int} (h : OwnS w base a cap zs) (hm : zs.length = m) (h8 : U8 zs) (hb : m ≤ 140737488351232) : Sl w a m cap zs := by
  refine ⟨hm, h.bytes, h8, by rw [← hm]; exact h.len, ?_, hb, h.nilcap⟩
  rcases h.cases with ⟨_, rfl, _⟩ | ⟨g, _, _, _, _, hc⟩
  · omega
  · unfold maxLen at hc; omega

theorem open_sl {a : Option Addr} {m cap : Nat} {zs : List Int} {w : World} (h : Sl w a m cap zs) : Calls Try.prog 44 #[.slice a m cap] w (Opens w zs) := by
  by_cases hl : m < 8
  · exact open_cut a m cap zs w h.len hl
  · obtain ⟨b, off, rfl, _⟩ := h.bytes 0 (by rw [h.len]; omega)
    exact open_any b off m cap zs w h.len (by have := h.bd; omega) h.cm h.le h.bytes h.u8 (by omega)
theorem ropen_sl {a : Option Addr} {m cap : Nat} {zs : List Int} {w : World} (h : Sl w a m cap zs) : Calls Try.prog 45 #[.slice a m cap] w (Opens w zs) := by
  by_cases hl : m < 8
  · exact ropen_cut a m cap zs w h.len hl
  · obtain ⟨b, off, rfl, _⟩ := h.bytes 0 (by rw [h.len]; omega)
    exact ropen_any b off m cap zs w h.len (by have := h.bd; omega) h.cm h.le h.bytes h.u8 (by omega)

theorem lent_sl {w : World} {g : Nat} {zs : List Int} {m : Nat} (h : Blk w g (lent zs 5)) (hm : zs.length = m) (h8 : U8 zs) (hb : m ≤ 140737488351232) : Sl w (some ⟨g, 0, none⟩) m (m + 5) zs :=
  ⟨hm, by have := h.bytes0 zs.length; rw [lent_take] at this; exact this, h8, by omega, by omega, hb, fun e => by cases e⟩

theorem Sl.nilS (w : World) : Sl w none 0 0 [] := ⟨rfl, fun i hi => absurd hi (Nat.not_lt_zero _), U8.nil, Nat.le_refl _, by omega, by omega, fun _ => rfl⟩

theorem openOf_len (zs : List Int) : (openOf zs).1.length ≤ zs.length := by
  unfold openOf
  split; · simp
  split; · simp
  split; · simp
  split; · simp
  split; · simp
  split; · simp
  simp; omega

theorem backN_any (g : Nat) (a : Option Addr) (m m' cap : Nat) (zs : List Int) (w : World) (hz : zs.length = m) (hz' : m' = m + 5) (hm : m ≤ 140737488355328) (hB : Blk w g (lent zs 5)) (hb : Bytes w a zs) :
    Calls Try.prog 15 #[.slice (some ⟨g, 0, none⟩) m m', .slice a m cap] w fun e w' => e = .returned (.bool true) ∧ Kept (Only g) w w' := by
  subst hz hz'; exact back_any g a cap zs w hm hB hb

set_option maxHeartbeats 1000000 in
theorem opened_any (a : Option Addr) (m cap : Nat) (zs : List Int) (w : World) (h : Sl w a m cap zs) :
    Calls Try.prog 20 #[.slice a m cap] w fun e w' => e = .returned (.bool true) ∧ Kept No w w' := by
  have HS : Hid (Sl w a m cap zs) := h
  have hbd := h.bd
  clear h
  go_enter Try.func20, Try.ntmps20
  go_wp2_with fail
  refine (lendN_any _ _ _ zs _ HS.out.len (by omega) HS.out.bytes).mono ?_
  rintro e w1 ⟨rfl, hB1, hK1⟩
  have HB1 : Hid (Blk w1 w.heap.size (lent zs 5)) := hB1
  have HK1 : Hid (Kept No w w1) := hK1
  clear hB1 hK1
  go_wp2_with fail
  refine (open_sl (lent_sl HB1.out HS.out.len HS.out.u8 (by omega))).mono ?_
  rintro e w2 ⟨a2, n2, c2, rfl, hn2, hO2, hK2⟩
  have HN2 : Hid (n2 = (openOf zs).1.length) := hn2
  have HO2 : Hid (OwnS w2 w1.heap.size a2 c2 (openOf zs).1) := hO2
  have HB2 : Hid (Blk w2 w.heap.size (lent zs 5)) := HB1.out.kept hK2 (fun e => e)
  have HK2 : Hid (Kept No w w2) := HK1.out.then hK2
  have HG : Hid (w.heap.size < w1.heap.size) := HB1.out.lt
  clear hn2 hO2 hK2 HB1 HK1
  go_wp2_with fail
  refine (backN_any _ _ _ _ _ zs _ HS.out.len rfl (by omega) HB2.out (HS.out.no HK2.out).bytes).mono ?_
  rintro e w3 ⟨rfl, hK3⟩
  have HO3 : Hid (OwnS w3 w1.heap.size a2 c2 (openOf zs).1) := HO2.out.kept hK3 (fun k hk e => by have h1 := HO2.out.base hk; have h2 : k = w.heap.size := e; have := HG.out; omega)
  have HK3 : Hid (Kept No w w3) := HK2.out.fresh hK3 (fun k e => by have h2 : k = w.heap.size := e; omega)
  clear hK3 HO2 HK2 HB2
  go_wp2_with fail
  refine (ropen_sl (HS.out.no HK3.out)).mono ?_
  rintro e w4 ⟨a4, n4, c4, rfl, hn4, hO4, hK4⟩
  have HN4 : Hid (n4 = (openOf zs).1.length) := hn4
  have HO4 : Hid (OwnS w4 w3.heap.size a4 c4 (openOf zs).1) := hO4
  have HO5 : Hid (OwnS w4 w1.heap.size a2 c2 (openOf zs).1) := HO3.out.no hK4
  have HK4 : Hid (Kept No w w4) := HK3.out.then hK4
  have hl2 : n2 ≤ m := by rw [HN2.out, ← HS.out.len]; exact openOf_len zs
  have hl4 : n4 ≤ m := by rw [HN4.out, ← HS.out.len]; exact openOf_len zs
  clear hn4 hO4 hK4 HO3 HK3
  go_wp2_with fail
  refine (sameN_any _ _ _ _ _ _ (openOf zs).1 (openOf zs).1 _ HN2.out.symm HN4.out.symm (by omega) (by omega) HO5.out.bytes HO4.out.bytes).mono ?_
  rintro e w5 ⟨rfl, n5, rfl⟩
  rw [eqB_refl]
  go_wp2
  go_ret
  exact ⟨rfl, HK4.out.drewN _⟩

def roundOf (x : Int) (n : Nat) : Nat := if x.tmod n < 0 then (x.tmod n + n).toNat else (x.tmod n).toNat
theorem roundOf_lt (x : Int) (n : Nat) (h : 0 < n) : roundOf x n < n := by
  have h1 : x.tmod n < n := Int.tmod_lt_of_pos x (by omega)
  have h2 : -(n : Int) < x.tmod n := by have := Int.tmod_lt_of_pos (-x) (b := (n : Int)) (by omega); rw [Int.neg_tmod] at this; omega
  unfold roundOf
  split <;> omega

set_option maxHeartbeats 400000 in
theorem round_any (x : Int) (n : Nat) (w : World) (h : 0 < n) (hn : n ≤ 9223372036854775807) :
    Calls Try.prog 21 #[.int .i64 x, .int .i64 n] w fun e w' => e = .returned (.int .i64 (roundOf x n)) ∧ w' = w := by
  have h1 : x.tmod n < n := Int.tmod_lt_of_pos x (by omega)
  have h2 : -(n : Int) < x.tmod n := by have := Int.tmod_lt_of_pos (-x) (b := (n : Int)) (by omega); rw [Int.neg_tmod] at this; omega
  go_enter Try.func21, Try.ntmps21
  go_wp2
  all_goals go_ret
  · exact ⟨ret_int (by unfold roundOf; rw [if_pos ‹_›]; omega), rfl⟩
  · exact ⟨ret_int (by unfold roundOf; rw [if_neg (by omega)]; omega), rfl⟩

end Go.Proofs.Ytnhjpghkmbgeaaa
