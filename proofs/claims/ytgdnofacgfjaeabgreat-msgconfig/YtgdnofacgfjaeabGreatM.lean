import Derived.WalkKit
import Derived.Laws.Closers25b
namespace Go.Proofs.YtgdnofacgfjaeabGreat
open Go.RowKit

/-- One step of the sum's register. -/
def shf (s : Int) : Int := if (bits .and .u32 s 1 == 1) = true then bits .xor .u32 (s / 2) 2197175160 else s / 2

def shfN : Nat → Int → Int
  | 0, s => s
  | n + 1, s => shf (shfN n s)

def upd (s z : Int) : Int := shfN 8 (bits .xor .u32 s z)

def crc (zs : List Int) : Int := zs.foldl upd 4294967295

def sumOf (zs : List Int) : Int := bits .xor .u32 (crc zs) 4294967295

theorem bits_xor_comm (k : IntKind) (x y : Int) : bits .xor k x y = bits .xor k y x := by
  simp only [bits]; rw [BitVec.xor_comm]

theorem shf_bd (s : Int) (h0 : 0 ≤ s) (h1 : s ≤ 4294967295) : 0 ≤ shf s ∧ shf s ≤ 4294967295 := by
  unfold shf
  split
  · exact ⟨bits_lo_u32 _ _ _, bits_hi_u32 _ _ _⟩
  · omega

theorem shfN_bd (n : Nat) (s : Int) (h0 : 0 ≤ s) (h1 : s ≤ 4294967295) : 0 ≤ shfN n s ∧ shfN n s ≤ 4294967295 := by
  induction n with
  | zero => exact ⟨h0, h1⟩
  | succ n ih => exact shf_bd _ ih.1 ih.2

theorem upd_bd (s z : Int) : 0 ≤ upd s z ∧ upd s z ≤ 4294967295 :=
  shfN_bd 8 _ (bits_lo_u32 _ _ _) (bits_hi_u32 _ _ _)

theorem crc_bd (zs : List Int) : 0 ≤ crc zs ∧ crc zs ≤ 4294967295 := by
  unfold crc
  suffices h : ∀ (zs : List Int) (s : Int), 0 ≤ s → s ≤ 4294967295 → 0 ≤ zs.foldl upd s ∧ zs.foldl upd s ≤ 4294967295 from h zs _ (by omega) (by omega)
  intro zs
  induction zs with
  | nil => intro s a b; exact ⟨a, b⟩
  | cons z r ih => intro s _ _; exact ih _ (upd_bd s z).1 (upd_bd s z).2

theorem sumOf_bd (zs : List Int) : 0 ≤ sumOf zs ∧ sumOf zs ≤ 4294967295 := ⟨bits_lo_u32 _ _ _, bits_hi_u32 _ _ _⟩

theorem crc_snoc (zs : List Int) (k : Nat) (h : k < zs.length) : crc (zs.take (k + 1)) = upd (crc (zs.take k)) (zs[k]?.getD 0) := by
  rw [List.take_succ_eq_append_getElem h, crc, List.foldl_append]
  simp [List.getElem?_eq_getElem h, crc]

/-- A row of bytes that lies behind a slice's address. -/
def Bytes (w : World) (a : Option Addr) (zs : List Int) : Prop :=
  ∀ i, i < zs.length → ∃ b off, a = some ⟨b, off, none⟩ ∧ w.cell? ⟨b, off + i, none⟩ = some (.int .u8 (zs[i]?.getD 0))

/-- Each number is a byte. -/
def U8 (zs : List Int) : Prop := ∀ i : Nat, 0 ≤ zs[i]?.getD 0 ∧ zs[i]?.getD 0 ≤ 255

end Go.Proofs.YtgdnofacgfjaeabGreat
