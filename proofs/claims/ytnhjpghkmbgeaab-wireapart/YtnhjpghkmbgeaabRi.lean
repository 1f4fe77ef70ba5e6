import Derived.Test.YtnhjpghkmbgeaabMb
import Derived.Laws.ResultCell
namespace Go.Proofs.Ytnhjpghkmbgeaab
open Go.RowKit
set_option linter.unusedVariables false

def rightK (k : Int) : Int := if k < 1 ∨ 4 < k then 2 else k
def rightN (k n : Int) : Int := if rightK k = 1 ∧ n < 0 then -(n + 1) else n

set_option maxHeartbeats 1000000 in
theorem right_any (k n : Int) (a : Option Addr) (m c : Nat) (w : World) (h0 : -9223372036854775808 ≤ n) (h1 : n ≤ 9223372036854775807) :
    Calls Try.prog 14 #[.agg #[.int .i64 k, .int .i64 n, .slice a m c]] w fun e w' => e = .returned (.agg #[.int .i64 (rightK k), .int .i64 (rightN k n), .slice a m c]) ∧ Kept No w w' := by
  by_cases hk1 : k < 1
  · have e1 : rightK k = 2 := by unfold rightK; rw [if_pos (.inl hk1)]
    have e2 : rightN k n = n := by unfold rightN; rw [e1, if_neg (by omega)]
    rw [e1, e2]
    clear e1 e2
    go_enter Try.func14, Try.ntmps14
    go_wp2
    exact bodyPost_ret (v := .agg #[.int .i64 2, .int .i64 n, .slice a m c]) (by simp [results, Try.results14, go_sem]) rfl ⟨rfl, ((Kept.refl _ _).alloc _).alloc _⟩
  by_cases hk4 : 4 < k
  · have e1 : rightK k = 2 := by unfold rightK; rw [if_pos (.inr hk4)]
    have e2 : rightN k n = n := by unfold rightN; rw [e1, if_neg (by omega)]
    rw [e1, e2]
    clear e1 e2
    go_enter Try.func14, Try.ntmps14
    go_wp2
    exact bodyPost_ret (v := .agg #[.int .i64 2, .int .i64 n, .slice a m c]) (by simp [results, Try.results14, go_sem]) rfl ⟨rfl, ((Kept.refl _ _).alloc _).alloc _⟩
  have e1 : rightK k = k := by unfold rightK; rw [if_neg (by omega)]
  by_cases hk : k = 1
  · subst hk
    by_cases hn : n < 0
    · have e2 : rightN 1 n = -(n + 1) := by unfold rightN; rw [e1, if_pos ⟨rfl, hn⟩]
      rw [e1, e2]
      clear e1 e2 hk1 hk4
      go_enter Try.func14, Try.ntmps14
      go_wp2
      exact bodyPost_ret (v := .agg #[.int .i64 1, .int .i64 (-(n + 1)), .slice a m c]) (by simp [results, Try.results14, go_sem]) rfl ⟨rfl, ((Kept.refl _ _).alloc _).alloc _⟩
    · have e2 : rightN 1 n = n := by unfold rightN; rw [e1, if_neg (by omega)]
      rw [e1, e2]
      clear e1 e2 hk1 hk4
      go_enter Try.func14, Try.ntmps14
      go_wp2
      exact bodyPost_ret (v := .agg #[.int .i64 1, .int .i64 n, .slice a m c]) (by simp [results, Try.results14, go_sem]) rfl ⟨rfl, ((Kept.refl _ _).alloc _).alloc _⟩
  · have e2 : rightN k n = n := by unfold rightN; rw [e1, if_neg (by omega)]
    have q1 : (k == 1) = false := by simpa using hk
    rw [e1, e2]
    clear e1 e2
    clear hk
    go_enter Try.func14, Try.ntmps14
    go_wp2
    exact bodyPost_ret (v := .agg #[.int .i64 k, .int .i64 n, .slice a m c]) (by simp [results, Try.results14, go_sem]) rfl ⟨rfl, ((Kept.refl _ _).alloc _).alloc _⟩

theorem rightK_bd (k : Int) : 1 ≤ rightK k ∧ rightK k ≤ 4 := by unfold rightK; split <;> omega
theorem rightN_bd (k n : Int) (h0 : -9223372036854775808 ≤ n) (h1 : n ≤ 9223372036854775807) : -9223372036854775808 ≤ rightN k n ∧ rightN k n ≤ 9223372036854775807 := by unfold rightN; split <;> omega
theorem rightN_pos (k n : Int) (h : rightK k = 1) : 0 ≤ rightN k n := by unfold rightN; rw [h]; split <;> omega

/-- What one read answers. -/
def readS (st : RS) (k : Int) : RS × Int × List Int :=
  if k = 1 then ((numS st).1, (numS st).2, []) else if k = 2 then ((intS st).1, (intS st).2, []) else ((bytesS st).1, 0, (bytesS st).2)

theorem run_bytes2 (w : World) (s : ByteArray) (hs : s.size ≤ 140737488351232) :
    ∃ c w', (convert 9 22 (.string s)).run Try.prog w = .ok (.slice (some ⟨w.heap.size, 0, none⟩) s.size c) w' ∧ Sl w' (some ⟨w.heap.size, 0, none⟩) s.size c (numsOf s) ∧ Kept No w w' := by
  refine ⟨_, _, run_bytes_of_string w 9 22 5 s Try.underlying9 Try.underlying22 Try.underlying5, ⟨numsOf_len s, ?_, numsOf_u8 s, grownCap_ge _ _ _ _, ?_, hs, fun e => by cases e⟩, ((Kept.refl _ _).drew).alloc _⟩
  · intro i hi
    refine ⟨_, _, rfl, ?_⟩
    rw [Nat.zero_add]
    have := World.cell?_alloc_mark w.drew (bytesRow s (grownCap w s.size 0 5)) 5 ((bytesRow s (grownCap w s.size 0 5)).size, (bytesRow s (grownCap w s.size 0 5)).size + 1) i
    rw [show w.drew.heap.size = w.heap.size from rfl] at this
    rw [this]
    have hi' : i < s.data.size := by simpa [numsOf] using hi
    unfold bytesRow
    rw [Array.getElem?_append_left (by simpa using hi'), List.getElem?_eq_getElem hi]
    rw [Array.getElem?_eq_getElem (by simpa using hi')]
    simp [numsOf]
  · have := grownCap_le_maxLen w s.size 0 5 (by unfold maxLen; omega)
    unfold maxLen at this
    omega

/-- What bytes are read lie in what was left. -/
theorem bytesS_ok {w : World} {g lb : Nat} {st : RS} (h : Rs w g lb st) : U8 (bytesS st).2 ∧ (bytesS st).2.length ≤ 140737488351232 := by
  cases st with
  | bad p c => exact ⟨U8.nil, by simp [bytesS]⟩
  | ok zs at_ =>
    obtain ⟨la, lc, hr, _⟩ := h
    have hb := hr.sl.bd
    cases hv : cr zs with
    | error c =>
      have e : bytesS (.ok zs at_) = (.bad at_ c, []) := by simp only [bytesS, hv]
      rw [e]; exact ⟨U8.nil, by simp⟩
    | ok x =>
      obtain ⟨n, k⟩ := x
      have e : bytesS (.ok zs at_) = (.ok (zs.drop (k + n)) (at_ + (k + n)), (zs.drop k).take n) := by simp only [bytesS, hv]
      rw [e]; exact ⟨(hr.sl.u8.drop k).take n, by simp only [List.length_take, List.length_drop]; omega⟩

/-- What a read leaves. -/
def ReadPost (w : World) (g lb : Nat) (st : RS) (k : Int) (e : Ending) (w' : World) : Prop :=
  ∃ a' m' c', e = .returned (.agg #[.int .i64 k, .int .i64 (readS st k).2.1, .slice a' m' c']) ∧ Sl w' a' m' c' (readS st k).2.2 ∧ (∀ i, At a' i → w.heap.size ≤ i) ∧ Rs w' g lb (readS st k).1 ∧ Kept (Only g) w w'

/-- The two blocks that a read lays down first. -/
theorem read_blocks {w w1 : World} {g : Nat} {k : Int} (hg : g < w.heap.size) (hk : Kept (Only g) ((w.alloc (Obj.cells #[.int .i64 0, .int .i64 0, .slice none 0 0] 42)).alloc (Obj.cells #[.int .i64 k, .int .i64 0, .slice none 0 0] 42)) w1) :
    w1.heap[w.heap.size]? = some (.cells #[.int .i64 0, .int .i64 0, .slice none 0 0] 42 (0, 0)) ∧ w1.heap[w.heap.size + 1]? = some (.cells #[.int .i64 k, .int .i64 0, .slice none 0 0] 42 (0, 0)) := by
  constructor
  · rw [hk.block _ (by rw [World.heap_size_alloc1, World.heap_size_alloc1]; omega) (fun e => by have e' : w.heap.size = g := e; omega)]
    rw [Below.heap_alloc _ _ _ (by rw [World.heap_size_alloc1]; omega)]
    exact heap_new _ _
  · rw [hk.block _ (by rw [World.heap_size_alloc1, World.heap_size_alloc1]; omega) (fun e => by have e' : w.heap.size + 1 = g := e; omega)]
    exact heap_new1 _ _ _

/-- Stores into those two blocks. -/
def Fresh2 (B : Nat) : Nat → Prop := fun i => i = B ∨ i = B + 1

theorem read_end {w w1 w2 : World} {g lb : Nat} {st st' : RS} {k n : Int} {a' : Option Addr} {m' c' : Nat} {L : List Int} (hg : g < w.heap.size) (hlb : lb < w.heap.size) (hk : Kept (Only g) w w1) (hr : Rs w1 g lb st') (hs : Sl w1 a' m' c' L) (ha : ∀ i, At a' i → w.heap.size + 2 ≤ i)
    (h2 : Kept (Fresh2 w.heap.size) w1 w2) (e : readS st k = (st', n, L)) : ReadPost w g lb st k (.returned (.agg #[.int .i64 k, .int .i64 n, .slice a' m' c'])) w2 := by
  refine ⟨a', m', c', by rw [e], ?_, fun i hi => by have := ha i hi; omega, ?_, ?_⟩
  · rw [e]
    exact hs.kept2 h2 (fun _ i hi e => by have := ha i hi; rcases e with e | e <;> omega)
  · rw [e]
    exact hr.kept h2 (fun e => by rcases e with e | e <;> omega) (fun e => by rcases e with e | e <;> omega)
  · exact hk.trans h2 (fun _ e => e) (fun i hi e => by rcases e with e | e <;> omega)

end Go.Proofs.Ytnhjpghkmbgeaab
