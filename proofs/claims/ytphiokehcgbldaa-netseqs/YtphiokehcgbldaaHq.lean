import Derived.Test.YtphiokehcgbldaaCl
namespace Go.Proofs.Ytphiokehcgbldaa
open Go.RowKit
set_option linter.unusedVariables false
set_option linter.unusedSimpArgs false
set_option maxRecDepth 100000
namespace Gx
/-- A slice of bytes that the call itself has made (or nil), with all that it may grow into. -/
def OwnS (w : World) (base : Nat) (a : Option Addr) (cap : Nat) (zs : List Int) : Prop :=
  w.ownsRow base 5 1 (.slice a zs.length cap) zs.length (zs.map (Value.int .u8))
theorem OwnS.cases {w : World} {base : Nat} {a : Option Addr} {cap : Nat} {zs : List Int} (h : OwnS w base a cap zs) :
    (a = none ∧ cap = 0 ∧ zs = []) ∨ ∃ g, a = some ⟨g, 0, none⟩ ∧ base ≤ g ∧ g < w.heap.size ∧ (∃ sp, w.heap[g]? = some (.cells (zs.map (Value.int .u8) ++ sp).toArray 5 (0, 0)) ∧ zs.length + sp.length = cap) ∧ cap ≤ maxLen := by
  rcases h.2 with ⟨hv, hn⟩ | ⟨g, cap', cur, hv, hb, hg, hl, hm, hs, ht⟩
  · simp only [Value.slice.injEq] at hv
    exact .inl ⟨hv.1, hv.2.2, List.eq_nil_of_length_eq_zero hn⟩
  · simp only [Value.slice.injEq] at hv
    obtain ⟨rfl, -, rfl⟩ := hv
    refine .inr ⟨g, rfl, hb, (Array.getElem?_eq_some_iff.1 hg).1, ⟨cur.toList.drop zs.length, ?_, ?_⟩, hm⟩
    · rw [Nat.mul_one] at ht
      rw [← ht, List.take_append_drop, hg]
    · simp; omega
theorem OwnS.bytes {w : World} {base : Nat} {a : Option Addr} {cap : Nat} {zs : List Int} (h : OwnS w base a cap zs) : Bytes w a zs := by
  rcases h.cases with ⟨rfl, _, rfl⟩ | ⟨g, rfl, _, _, ⟨sp, hg, _⟩, _⟩
  · intro i hi; exact absurd hi (Nat.not_lt_zero _)
  · intro i hi
    refine ⟨g, 0, rfl, ?_⟩
    rw [Nat.zero_add, cell_of_row w g i _ 5 (0, 0) hg]
    simp [List.getElem?_append_left, hi]
theorem OwnS.nilcap {w : World} {base : Nat} {a : Option Addr} {cap : Nat} {zs : List Int} (h : OwnS w base a cap zs) : a = none → cap = 0 := by
  rcases h.cases with ⟨_, h2, _⟩ | ⟨g, rfl, _⟩
  · intro _; exact h2
  · intro e; cases e
theorem OwnS.base {w : World} {base : Nat} {a : Option Addr} {cap : Nat} {zs : List Int} (h : OwnS w base a cap zs) {k : Nat} (hk : At a k) : base ≤ k := by
  obtain ⟨ad, e, rfl⟩ := hk
  rcases h.cases with ⟨rfl, _, _⟩ | ⟨g, rfl, hb, _⟩
  · cases e
  · cases e; exact hb
theorem OwnS.len {w : World} {base : Nat} {a : Option Addr} {cap : Nat} {zs : List Int} (h : OwnS w base a cap zs) : zs.length ≤ cap := by
  rcases h.cases with ⟨_, _, rfl⟩ | ⟨g, _, _, _, ⟨sp, _, hs⟩, _⟩
  · simp
  · omega
theorem OwnS.nil (w : World) (base : Nat) : OwnS w base none 0 [] := World.ownsRow_nil _ _ _ _
theorem OwnS.kept {S : Nat → Prop} {w w' : World} {base : Nat} {a : Option Addr} {cap : Nat} {zs : List Int} (h : OwnS w base a cap zs) (hk : Kept S w w') (hS : ∀ k, At a k → ¬ S k) : OwnS w' base a cap zs := by
  refine ⟨h.1, ?_⟩
  rcases h.2 with hn | ⟨g, cap', cur, hv, hb, hg, rest⟩
  · exact .inl hn
  · refine .inr ⟨g, cap', cur, hv, hb, ?_, rest⟩
    rw [hk.block g (Array.getElem?_eq_some_iff.1 hg).1 (hS g ?_)]
    · exact hg
    · simp only [Value.slice.injEq] at hv
      exact ⟨_, hv.1, rfl⟩
theorem OwnS.no {w w' : World} {base : Nat} {a : Option Addr} {cap : Nat} {zs : List Int} (h : OwnS w base a cap zs) (hk : Kept No w w') : OwnS w' base a cap zs := h.kept hk (fun _ _ e => e)
/-- A smaller base. -/
theorem OwnS.lower {w : World} {base base' : Nat} {a : Option Addr} {cap : Nat} {zs : List Int} (h : OwnS w base a cap zs) (hb : base' ≤ base) : OwnS w base' a cap zs := by
  refine ⟨h.1, ?_⟩
  rcases h.2 with hn | ⟨g, cap', cur, hv, hb', rest⟩
  · exact .inl hn
  · exact .inr ⟨g, cap', cur, hv, by omega, rest⟩
theorem own_slice {w : World} {base : Nat} {e : TypeId} {size : Nat} {v : Value} {n : Nat} {xs : List Value} (h : w.ownsRow base e size v n xs) : ∃ a c, v = .slice a n c := by
  rcases h.2 with ⟨rfl, h0⟩ | ⟨g, cap', cur, e, _⟩
  · exact ⟨_, _, by rw [h0]⟩
  · exact ⟨_, _, e⟩
set_option linter.unusedVariables false

theorem own_at {w : World} {base : Nat} {e : TypeId} {size : Nat} {a : Option Addr} {n c : Nat} {xs : List Value} (h : w.ownsRow base e size (.slice a n c) n xs) {k : Nat} (hk : At a k) : base ≤ k := by
  obtain ⟨ad, rfl, rfl⟩ := hk
  rcases h.2 with ⟨hv, _⟩ | ⟨g, cap', cur, hv, hb, _⟩
  · simp only [Value.slice.injEq] at hv; cases hv.1
  · simp only [Value.slice.injEq, Option.some.injEq] at hv; rw [hv.1]; exact hb
theorem own_type {w : World} {base : Nat} {e : TypeId} {size : Nat} {a : Option Addr} {n c : Nat} {xs : List Value} (h : w.ownsRow base e size (.slice a n c) n xs) {k : Nat} (hk : At a k) : ∃ cur, w.heap[k]? = some (.cells cur e (0, 0)) := by
  obtain ⟨ad, rfl, rfl⟩ := hk
  rcases h.2 with ⟨hv, _⟩ | ⟨g, cap', cur, hv, hb, hg, _⟩
  · simp only [Value.slice.injEq] at hv; cases hv.1
  · simp only [Value.slice.injEq, Option.some.injEq] at hv; rw [hv.1]; exact ⟨cur, hg⟩
/-- Blocks of two types are two. -/
theorem OwnS.ne {w : World} {base : Nat} {a : Option Addr} {c : Nat} {zs : List Int} (h : OwnS w base a c zs) {g : Nat} {cs : Array Value} {t : TypeId} {fr : Nat × Nat} (hg : w.heap[g]? = some (.cells cs t fr)) (ht : t ≠ 5) : ¬ At a g := by
  rintro ⟨ad, rfl, rfl⟩
  rcases h.cases with ⟨e, _⟩ | ⟨g', e, _, _, ⟨sp, hc, _⟩, _⟩
  · cases e
  · cases e
    rw [hc] at hg
    cases hg
    exact ht rfl
theorem OwnS.lt {w : World} {base : Nat} {a : Option Addr} {c : Nat} {zs : List Int} (h : OwnS w base a c zs) {k : Nat} (hk : At a k) : k < w.heap.size := by
  obtain ⟨ad, rfl, rfl⟩ := hk
  rcases h.cases with ⟨e, _⟩ | ⟨g', e, _, hl, _⟩
  · cases e
  · cases e; exact hl
theorem OwnS.nil0 {w : World} {base : Nat} {a : Option Addr} {cap : Nat} {zs : List Int} (h : OwnS w base a cap zs) (e : a = none) : zs.length = 0 := by
  rcases h.cases with ⟨_, _, h3⟩ | ⟨g, h', _⟩
  · rw [h3]; rfl
  · rw [e] at h'; cases h'
set_option linter.unusedVariables false

theorem OwnS.row2 {w : World} {base g : Nat} {cap : Nat} {zs : List Int} (h : OwnS w base (some ⟨g, 0, none⟩) cap zs) (j : Nat) (hj : j < zs.length) :
    w.cell? ⟨g, j, none⟩ = some (.int .u8 (zs[j]?.getD 0)) ∧ w.frozen? ⟨g, j, none⟩ = false := by
  refine ⟨?_, World.ownsRow.frozenAt h j⟩
  rw [World.ownsRow.cellAt h j (by omega)]
  simp [hj]
theorem OwnS.set2 {w : World} {base g : Nat} {cap : Nat} {zs : List Int} (h : OwnS w base (some ⟨g, 0, none⟩) cap zs) (j : Nat) (x : Int) : OwnS (w.setCell ⟨g, j, none⟩ (.int .u8 x)) base (some ⟨g, 0, none⟩) cap (zs.set j x) := by
  have := (World.ownsRow.stored h j (.int .u8 x)).1
  unfold OwnS
  rw [List.length_set, List.map_set]
  exact this
theorem OwnS.some {w : World} {base : Nat} {a : Option Addr} {c : Nat} {zs : List Int} (h : OwnS w base a c zs) (h0 : 0 < zs.length) : ∃ g, a = Option.some ⟨g, 0, none⟩ ∧ base ≤ g := by
  rcases h.cases with ⟨_, _, e⟩ | ⟨g, e, hb, _⟩
  · rw [e] at h0; simp at h0
  · exact ⟨g, e, hb⟩
theorem ret_u8 {x y : Int} (h : x = y) : Ending.returned (.int .u8 x) = .returned (.int .u8 y) := by rw [h]

/-- The byte j of the marks of list i. -/
def markOf (i j : Nat) : Nat := if j % 3 = 0 then i % 256 else if j % 3 = 1 then i / 256 % 256 else j % 256
theorem markOf_lt (i j : Nat) : markOf i j < 256 := by unfold markOf; split <;> (try split) <;> omega

set_option maxRecDepth 100000 in
set_option maxHeartbeats 1000000 in
theorem mark_any (i j : Nat) (w : World) (hi : i ≤ 140737488355328) (hj : j ≤ 140737488355328) :
    Calls Try.prog 40 #[.int .i64 (i : Int), .int .i64 (j : Int)] w fun e w' => e = .returned (.int .u8 (markOf i j : Int)) ∧ w' = w := by
  by_cases h0 : j % 3 = 0
  · have HE : Hid ((markOf i j : Int) = (i : Int) % 256) := by unfold Hid markOf; rw [if_pos h0]; omega
    have t0 : ((j : Int) % 3 == 0) = true := by simp; omega
    clear h0
    go_enter Try.func40, Try.ntmps40
    go_wp2
    go_ret
    exact ⟨ret_u8 HE.out.symm, rfl⟩
  by_cases h1 : j % 3 = 1
  · have HE : Hid ((markOf i j : Int) = (i : Int) / 256 % 256) := by unfold Hid markOf; rw [if_neg h0, if_pos h1]; omega
    have t0 : ((j : Int) % 3 == 0) = false := by simp; omega
    have t1 : ((j : Int) % 3 == 1) = true := by simp; omega
    clear h0 h1
    go_enter Try.func40, Try.ntmps40
    go_wp2
    go_ret
    exact ⟨ret_u8 HE.out.symm, rfl⟩
  · have HE : Hid ((markOf i j : Int) = (j : Int) % 256) := by unfold Hid markOf; rw [if_neg h0, if_neg h1]; omega
    have t0 : ((j : Int) % 3 == 0) = false := by simp; omega
    have t1 : ((j : Int) % 3 == 1) = false := by simp; omega
    clear h0 h1
    go_enter Try.func40, Try.ntmps40
    go_wp2
    go_ret
    exact ⟨ret_u8 HE.out.symm, rfl⟩

end Gx

end Go.Proofs.Ytphiokehcgbldaa
