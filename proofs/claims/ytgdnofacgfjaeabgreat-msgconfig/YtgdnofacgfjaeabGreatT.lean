import Derived.Test.YtgdnofacgfjaeabGreatQ
namespace Go.Proofs.YtgdnofacgfjaeabGreat
open Go.RowKit
set_option linter.unusedVariables false

/-- A slice of bytes, as it may be handed in. -/
structure Sl (w : World) (a : Option Addr) (m cap : Nat) (zs : List Int) : Prop where
  len : zs.length = m
  bytes : Bytes w a zs
  u8 : U8 zs
  le : m ≤ cap
  cm : cap ≤ 9223372036854775807
  bd : m ≤ 140737488351232
  nil : a = none → cap = 0

theorem Sl.kept {S : Nat → Prop} {w w' : World} {a : Option Addr} {m cap : Nat} {zs : List Int} (h : Sl w a m cap zs) (hk : Kept S w w') (hS : ∀ k, k < w.heap.size → ¬ S k) : Sl w' a m cap zs :=
  ⟨h.len, fun i hi => by
    obtain ⟨b, off, rfl, hc⟩ := h.bytes i hi
    exact ⟨b, off, rfl, hk.cell hc (hS b (World.block_lt_of_cell? w _ hc))⟩, h.u8, h.le, h.cm, h.bd, h.nil⟩
theorem Sl.no {w w' : World} {a : Option Addr} {m cap : Nat} {zs : List Int} (h : Sl w a m cap zs) (hk : Kept No w w') : Sl w' a m cap zs := h.kept hk (fun _ _ e => e)
/-- It stays where only the blocks of S have turned, and its own is none of them. -/
theorem Sl.off {S : Nat → Prop} {w w' : World} {a : Option Addr} {m cap : Nat} {zs : List Int} (h : Sl w a m cap zs) (hk : Kept S w w') (hS : ∀ k, At a k → ¬ S k) : Sl w' a m cap zs :=
  ⟨h.len, h.bytes.kept hk (fun b off e => hS b ⟨_, e, rfl⟩), h.u8, h.le, h.cm, h.bd, h.nil⟩

theorem OwnS.sl {w : World} {base : Nat} {a : Option Addr} {m cap : Nat} {zs : List Int} (h : OwnS w base a cap zs) (hm : zs.length = m) (h8 : U8 zs) (hb : m ≤ 140737488351232) : Sl w a m cap zs := by
  refine ⟨hm, h.bytes, h8, by rw [← hm]; exact h.len, ?_, hb, h.nilcap⟩
  rcases h.cases with ⟨_, rfl, _⟩ | ⟨g, _, _, _, _, hc⟩
  · omega
  · unfold maxLen at hc; omega

theorem open_sl {a : Option Addr} {m cap : Nat} {zs : List Int} {w : World} (h : Sl w a m cap zs) : Calls Tryz.prog 79 #[.slice a m cap] w (Opens w zs) := by
  by_cases hl : m < 8
  · exact open_cut a m cap zs w h.len hl
  · obtain ⟨b, off, rfl, _⟩ := h.bytes 0 (by rw [h.len]; omega)
    exact open_any b off m cap zs w h.len (by have := h.bd; omega) h.cm h.le h.bytes h.u8 (by omega)
theorem ropen_sl {a : Option Addr} {m cap : Nat} {zs : List Int} {w : World} (h : Sl w a m cap zs) : Calls Tryz.prog 169 #[.slice a m cap] w (Opens w zs) := by
  by_cases hl : m < 8
  · exact ropen_cut a m cap zs w h.len hl
  · obtain ⟨b, off, rfl, _⟩ := h.bytes 0 (by rw [h.len]; omega)
    exact ropen_any b off m cap zs w h.len (by have := h.bd; omega) h.cm h.le h.bytes h.u8 (by omega)

theorem lent_sl {w : World} {g : Nat} {zs : List Int} {m : Nat} (h : Blk w g (lent zs 5)) (hm : zs.length = m) (h8 : U8 zs) (hb : m ≤ 140737488351232) : Sl w (some ⟨g, 0, none⟩) m (m + 5) zs :=
  ⟨hm, by have := h.bytes0 zs.length; rw [lent_take] at this; exact this, h8, by omega, by omega, hb, fun e => by cases e⟩

theorem Sl.nilS (w : World) : Sl w none 0 0 [] := ⟨rfl, fun i hi => absurd hi (Nat.not_lt_zero _), U8.nil, Nat.le_refl _, by omega, by omega, fun _ => rfl⟩

theorem openOf_len (zs : List Int) : (openOf zs).1.length ≤ zs.length := by
  unfold openOf
  split; · simp
  split; · simp
  split; · simp
  split; · simp
  split; · simp
  split; · simp
  simp; omega

def roundOf (x : Int) (n : Nat) : Nat := if x.tmod n < 0 then (x.tmod n + n).toNat else (x.tmod n).toNat
theorem roundOf_lt (x : Int) (n : Nat) (h : 0 < n) : roundOf x n < n := by
  have h1 : x.tmod n < n := Int.tmod_lt_of_pos x (by omega)
  have h2 : -(n : Int) < x.tmod n := by have := Int.tmod_lt_of_pos (-x) (b := (n : Int)) (by omega); rw [Int.neg_tmod] at this; omega
  unfold roundOf
  split <;> omega

end Go.Proofs.YtgdnofacgfjaeabGreat
