import Derived.Test.YtgnfeegnhdbnkaaH
namespace Go.Proofs.Ytgnfeegnhdbnkaa
open Go.RowKit Go.Lib
set_option linter.unusedVariables false
set_option linter.unusedSimpArgs false

/-- Sizes of what the cutter holds ahead of the i-th byte. -/
structure Ib (i : Nat) (s : Cs) : Prop where
  fr : s.fr ≤ i
  ws : s.ws.length ≤ i
  bt : s.bt.length ≤ i
  b2 : s.pl = 2 → s.bt.length ≤ s.fr
theorem cutL_len2 (l : List UInt8) (a b : Nat) : (cutL l a b).length ≤ b - a := by
  unfold cutL
  rw [List.length_take]
  omega
theorem setLast_len (l : List UInt8) (x : UInt8) : (setLast l x).length = l.length := by simp [setLast]
theorem Ib.step {l : List UInt8} {i k : Nat} {s : Cs} (h : Ib i s) (hk : 1 ≤ k) (r : Int) : Ib (i + k) (stepC l s i r) := by
  obtain ⟨pl, fr, ws, bt⟩ := s
  obtain ⟨h1, h2, h3, h4⟩ := h
  simp only at h1 h2 h3 h4
  have hc := cutL_len2 l fr i
  unfold stepC
  match pl, h4 with
  | 0, h4 =>
    simp only [begS]
    split
    · exact ⟨by show i + 1 ≤ _; omega, by show ws.length ≤ _; omega, by simp, by simp⟩
    · split
      · exact ⟨by show fr ≤ _; omega, by show ws.length ≤ _; omega, by show bt.length ≤ _; omega, by simp⟩
      · exact ⟨by show i ≤ _; omega, by show ws.length ≤ _; omega, by show bt.length ≤ _; omega, by simp⟩
  | 1, h4 =>
    simp only [plaS]
    split
    · exact ⟨by show fr ≤ _; omega, by show ws.length ≤ _; omega, by show bt.length ≤ _; omega, by simp⟩
    · split
      · exact ⟨by show fr ≤ _; omega, by simp; omega, by show bt.length ≤ _; omega, by simp⟩
      · exact ⟨by show fr ≤ _; omega, by show ws.length ≤ _; omega, by show bt.length ≤ _; omega, by simp⟩
  | 2, h4 =>
    have h5 := h4 rfl
    simp only [quoS]
    split
    · exact ⟨by show fr ≤ _; omega, by show ws.length ≤ _; omega, by simp; omega, by simp⟩
    · split
      · exact ⟨by show fr ≤ _; omega, by simp; omega, by simp; omega, by simp⟩
      · exact ⟨by show fr ≤ _; omega, by show ws.length ≤ _; omega, by show bt.length ≤ _; omega, fun _ => h5⟩
  | 3, h4 =>
    simp only [eseS]
    repeat' split
    all_goals exact ⟨by show i + 1 ≤ _; omega, by show ws.length ≤ _; omega, by first | (simp; omega) | (show bt.length ≤ _; omega), by simp <;> omega⟩
  | 4, h4 =>
    simp only [digS]
    split
    · exact ⟨by show fr ≤ _; omega, by show ws.length ≤ _; omega, by show bt.length ≤ _; omega, by simp⟩
    · exact ⟨by show fr ≤ _; omega, by show ws.length ≤ _; omega, by simp [setLast_len]; omega, by simp⟩
  | 5, h4 =>
    simp only [digS]
    split
    · exact ⟨by show fr ≤ _; omega, by show ws.length ≤ _; omega, by show bt.length ≤ _; omega, by simp⟩
    · exact ⟨by show i + 1 ≤ _; omega, by show ws.length ≤ _; omega, by simp [setLast_len]; omega, by simp [setLast_len]; omega⟩
  | 6, h4 =>
    simp only [behS]
    split
    · exact ⟨by show fr ≤ _; omega, by show ws.length ≤ _; omega, by show bt.length ≤ _; omega, by simp⟩
    · exact ⟨by show fr ≤ _; omega, by show ws.length ≤ _; omega, by show bt.length ≤ _; omega, by simp⟩
  | n + 7, h4 => exact ⟨by show fr ≤ _; omega, by show ws.length ≤ _; omega, by show bt.length ≤ _; omega, by simp⟩
def PostC (n0 g : Nat) (l : List UInt8) (s : Cs) (w : World) (e : Ending) (w' : World) : Prop := e = .returned (.tuple #[]) ∧ CutA n0 w' g l s ∧ Kept (Sg n0 g) w w'
section
variable {n0 g : Nat} {l : List UInt8} {s : Cs} {i : Nat} {r : Int} {w : World}
theorem c13 (hc : CutA n0 w g l s) (hb : Ib i s) (hi : i < l.length) (hl : l.length ≤ 1000000000000) : Calls Try.prog 13 #[.pointer (some ⟨g, 0, none⟩), .int .i64 (i : Int), .int .i32 r] w (PostC n0 g l (begS s i r) w) := by
  have h1 := hb.fr; have h2 := hb.ws; have h3 := hb.bt
  by_cases hr : r = 34
  · exact begin_q n0 g l s i r w hc hi hl h1 (by omega) (by omega) hr
  · cases hq : isB r with
    | true => exact begin_b n0 g l s i r w hc hi hl h1 (by omega) (by omega) hr hq
    | false => exact begin_p n0 g l s i r w hc hi hl h1 (by omega) (by omega) hr hq
theorem c14 (hc : CutA n0 w g l s) (hb : Ib i s) (hi : i < l.length) (hl : l.length ≤ 1000000000000) : Calls Try.prog 14 #[.pointer (some ⟨g, 0, none⟩), .int .i64 (i : Int), .int .i32 r] w (PostC n0 g l (plaS l s i r) w) := by
  have h1 := hb.fr; have h2 := hb.ws; have h3 := hb.bt
  by_cases hr : r = 34
  · exact plain_q n0 g l s i r w hc hi hl h1 (by omega) (by omega) hr
  · cases hq : isB r with
    | true => exact plain_b n0 g l s i r w hc hi hl h1 (by omega) (by omega) hr hq
    | false => exact plain_n n0 g l s i r w hc hi hl h1 (by omega) (by omega) hr hq
theorem c15 (hc : CutA n0 w g l s) (hb : Ib i s) (hi : i < l.length) (hl : l.length ≤ 1000000000000) : Calls Try.prog 15 #[.pointer (some ⟨g, 0, none⟩), .int .i64 (i : Int), .int .i32 r] w (PostC n0 g l (quoS l s i r) w) := by
  have h1 := hb.fr; have h2 := hb.ws; have h3 := hb.bt
  by_cases hr : r = 92
  · exact quo_s n0 g l s i r w hc hi hl h1 (by omega) (by omega) hr
  · by_cases hr2 : r = 34
    · exact quo_e n0 g l s i r w hc hi hl h1 (by omega) (by omega) hr2
    · exact quo_n n0 g l s i r w hc hi hl h1 (by omega) (by omega) hr hr2
theorem c16 (hc : CutA n0 w g l s) (hb : Ib i s) (hi : i < l.length) (hl : l.length ≤ 1000000000000) : Calls Try.prog 16 #[.pointer (some ⟨g, 0, none⟩), .int .i64 (i : Int), .int .i32 r] w (PostC n0 g l (eseS s i r) w) := by
  have h1 := hb.fr; have h2 := hb.ws; have h3 := hb.bt
  by_cases a1 : r = 34
  · exact ese_q n0 g l s i r w hc hi hl h1 (by omega) (by omega) a1
  by_cases a2 : r = 92
  · exact ese_s n0 g l s i r w hc hi hl h1 (by omega) (by omega) a2
  by_cases a3 : r = 110
  · exact ese_n n0 g l s i r w hc hi hl h1 (by omega) (by omega) a3
  by_cases a4 : r = 116
  · exact ese_t n0 g l s i r w hc hi hl h1 (by omega) (by omega) a4
  by_cases a5 : r = 120
  · exact ese_x n0 g l s i r w hc hi hl h1 (by omega) (by omega) a5
  exact ese_w n0 g l s i r w hc hi hl h1 (by omega) (by omega) a1 a2 a3 a4 a5
theorem c17 (hc : CutA n0 w g l s) (hb : Ib i s) (hi : i < l.length) (hl : l.length ≤ 1000000000000) (hr : 0 ≤ r ∧ r ≤ 2147483647) {t : St} (hR : Rl l i s t) (hp : s.pl = 4 ∨ s.pl = 5) : Calls Try.prog 17 #[.pointer (some ⟨g, 0, none⟩), .int .i64 (i : Int), .int .i32 r] w (PostC n0 g l (digS s i r) w) := by
  have h3 := hb.bt
  have hB : (s.pl = 4 ∧ ∃ b0, s.bt = b0 ++ [(0 : UInt8)]) ∨ (s.pl = 5 ∧ ∃ b0 x dd, s.bt = b0 ++ [x] ∧ (0 : Int) ≤ dd ∧ dd ≤ 15 ∧ (x.toNat : Int) = 16 * dd) := by
    unfold Rl at hR
    rcases hp with hp | hp
    · rw [hp] at hR
      exact .inl ⟨hp, _, hR.2.1⟩
    · rw [hp] at hR
      obtain ⟨_, d0, d1, hbt, _⟩ := hR
      refine .inr ⟨hp, _, _, t.dg, hbt, d0, d1, ?_⟩
      rw [UInt8.toNat_ofNat']
      omega
  rcases hB with ⟨hp, b0, hbt⟩ | ⟨hp, b0, x, dd, hbt, d0, d1, hx⟩
  · cases hh : hexD r with
    | none => exact dig_n n0 g l s i r w hc hi hl hr b0 _ hbt (by omega) hh
    | some h => exact dig_h n0 g l s i r w hc hi hl hr b0 _ hbt (by omega) h hh hp
  · cases hh : hexD r with
    | none => exact dig_n n0 g l s i r w hc hi hl hr b0 _ hbt (by omega) hh
    | some h => exact dig_l n0 g l s i r w hc hi hl hr b0 _ hbt (by omega) h hh (by omega) dd ⟨d0, d1⟩ hx
theorem c18 (hc : CutA n0 w g l s) : Calls Try.prog 18 #[.pointer (some ⟨g, 0, none⟩), .int .i32 r] w (PostC n0 g l (behS s r) w) := by
  cases hq : isB r with
  | true => exact beh_b n0 g l s r w hc hq
  | false => exact beh_n n0 g l s r w hc hq
theorem c19 (hc : CutA n0 w g l s) (hb : s.fr ≤ l.length) (hw : s.ws.length ≤ l.length) (hl : l.length ≤ 1000000000000) : Calls Try.prog 19 #[.pointer (some ⟨g, 0, none⟩)] w (fun e w' => WsO n0 w' 200 (endC l s) e ∧ Kept (Sg n0 g) w w') := by
  by_cases a0 : s.pl = 0
  · exact end_0 n0 g l s w hc hb hl (by omega) a0
  by_cases a6 : s.pl = 6
  · exact end_6 n0 g l s w hc hb hl (by omega) a6
  by_cases a1 : s.pl = 1
  · exact end_1 n0 g l s w hc hb hl (by omega) a1
  exact end_n n0 g l s w hc hb hl (by omega) a0 a6 a1
end
end Go.Proofs.Ytgnfeegnhdbnkaa
