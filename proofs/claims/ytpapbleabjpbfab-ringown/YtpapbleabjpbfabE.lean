import Derived.Test.YtpapbleabjpbfabM
namespace Go.Proofs.Ytpapbleabjpbfab
open Go.RowKit
set_option linter.unusedVariables false

/-- A block of cells that the call itself has made. -/
def Box (w : World) (g : Nat) (t : TypeId) (cs : Array Value) : Prop := w.heap[g]? = some (.cells cs t (0, 0))
theorem Box.lt {w : World} {g : Nat} {t : TypeId} {cs : Array Value} (h : Box w g t cs) : g < w.heap.size := (Array.getElem?_eq_some_iff.1 h).1
theorem Box.cell {w : World} {g : Nat} {t : TypeId} {cs : Array Value} (h : Box w g t cs) (i : Nat) : w.cell? ⟨g, i, none⟩ = cs[i]? := cell_of_row w g i _ t (0, 0) h
theorem Box.frozen {w : World} {g : Nat} {t : TypeId} {cs : Array Value} (h : Box w g t cs) (i : Nat) : w.frozen? ⟨g, i, none⟩ = false := frozen_of_row w g i _ t h
theorem Box.set {w : World} {g : Nat} {t : TypeId} {cs : Array Value} (h : Box w g t cs) (i : Nat) (v : Value) : Box (w.setCell ⟨g, i, none⟩ v) g t (cs.setIfInBounds i v) := heap_setCell_same w g i _ t v h
theorem Box.kept {S : Nat → Prop} {w w' : World} {g : Nat} {t : TypeId} {cs : Array Value} (h : Box w g t cs) (hk : Kept S w w') (hS : ¬ S g) : Box w' g t cs := (hk.block g h.lt hS).trans h
theorem Box.new (w : World) (t : TypeId) (cs : Array Value) : Box (w.alloc (.cells cs t)) w.heap.size t cs := by
  unfold Box World.alloc; simp
theorem Box.alloc {w : World} {g : Nat} {t : TypeId} {cs : Array Value} (h : Box w g t cs) (o : Obj) : Box (w.alloc o) g t cs := (Below.heap_alloc _ _ _ h.lt).trans h
theorem Box.nums {w : World} {g : Nat} {t : TypeId} {q : IntKind} {zs : List Int} (h : Box w g t (zs.map (Value.int q)).toArray) (n : Nat) : Nums q w (some ⟨g, 0, none⟩) (zs.take n) := by
  intro i hi
  refine ⟨g, 0, rfl, ?_⟩
  simp only [List.length_take] at hi
  rw [Nat.zero_add, h.cell, List.getElem?_take, if_pos (by omega)]
  simp [List.getElem?_eq_getElem (show i < zs.length by omega)]

def eqB (xs ys : List Int) : Bool := decide (xs = ys)
theorem eqB_len {xs ys : List Int} (h : xs.length ≠ ys.length) : false = eqB xs ys := by
  unfold eqB; symm; exact decide_eq_false (fun e => h (by rw [e]))
theorem eqB_not {xs ys : List Int} (k : Nat) (h : xs[k]?.getD 0 ≠ ys[k]?.getD 0) : false = eqB xs ys := by
  unfold eqB; symm; exact decide_eq_false (fun e => h (by rw [e]))
theorem eqB_all {xs ys : List Int} (hl : xs.length = ys.length) (h : ∀ j, j < xs.length → xs[j]?.getD 0 = ys[j]?.getD 0) : true = eqB xs ys := by
  unfold eqB; symm; refine decide_eq_true (List.ext_getElem hl fun i h1 h2 => ?_)
  have := h i h1
  simpa [List.getElem?_eq_getElem h1, List.getElem?_eq_getElem h2] using this
theorem eqB_refl (xs : List Int) : eqB xs xs = true := by simp [eqB]
theorem eqB_eq {xs ys : List Int} (h : xs = ys) : eqB xs ys = true := by subst h; simp [eqB]

set_option maxHeartbeats 400000 in
theorem sameInts_any (a b : Option Addr) (ca cb : Nat) (xs ys : List Int) (w : World) (hm : xs.length ≤ 281474976710656) (hn : ys.length ≤ 281474976710656) (hx : Nums .i64 w a xs) (hy : Nums .i64 w b ys) :
    Calls Try.prog 22 #[.slice a xs.length ca, .slice b ys.length cb] w fun e w' => e = .returned (.bool (eqB xs ys)) ∧ ∃ n, w' = w.drewN n := by
  have HX : Hid (Nums .i64 w a xs) := hx
  have HY : Hid (Nums .i64 w b ys) := hy
  clear hx hy
  by_cases hl : xs.length = ys.length
  · have HL : Hid (xs.length = ys.length) := hl
    go_enter Try.func22, Try.ntmps22
    go_wp2
    go_loopw [5] (fun i wr => ∃ k : Nat, k ≤ xs.length ∧ i = .int .i64 k ∧ Hid (∀ j, j < k → xs[j]?.getD 0 = ys[j]?.getD 0) ∧ ∃ n, wr = w.drewN n) (fun i _ => xs.length - (intOf i).toNat)
    case atStart => exact ⟨0, Nat.zero_le _, rfl, fun j hj => absurd hj (Nat.not_lt_zero _), 0, rfl⟩
    case round =>
      obtain ⟨k, hk, rfl, HE, n, rfl⟩ := hrel
      by_cases hlt : k < xs.length
      · have hlt2 : k < ys.length := by omega
        clear hl
        obtain ⟨b1, o1, rfl, hc1⟩ := HX.out k hlt
        obtain ⟨b2, o2, rfl, hc2⟩ := HY.out k hlt2
        by_cases he : xs[k]?.getD 0 = ys[k]?.getD 0
        · have HE' : Hid (∀ j, j < k + 1 → xs[j]?.getD 0 = ys[j]?.getD 0) := fun j hj => by
            by_cases e : j = k
            · subst e; exact he
            · exact HE.out j (by omega)
          rw [← he] at hc2
          clear he HE
          generalize xs[k]?.getD 0 = z at hc1 hc2
          go_wp2
          go_quiet (fail)
          go_wp2
          go_roundw
          case rel => exact ⟨k + 1, by omega, by go_num, HE', _, rfl⟩
          case measure => simp [intOf]; omega
        · have HN : Hid (xs[k]?.getD 0 ≠ ys[k]?.getD 0) := he
          have hne : (xs[k]?.getD 0 == ys[k]?.getD 0) = false := by simpa using he
          clear he HE
          generalize hz : xs[k]?.getD 0 = z at hc1 hne
          generalize hu : ys[k]?.getD 0 = u at hc2 hne
          have HZ : Hid (xs[k]?.getD 0 = z) := hz
          have HU : Hid (ys[k]?.getD 0 = u) := hu
          clear hz hu
          go_wp2
          go_quiet (fail)
          go_wp2
          go_ret
          exact ⟨ret_bool (eqB_not k HN.out), _, drewN2 _ _ _⟩
      · clear hl
        go_wp2
        go_ret
        exact ⟨ret_bool (eqB_all HL.out (fun j hj => HE.out j (by omega))), _, rfl⟩
  · have hl' : ((xs.length : Int) == (ys.length : Int)) = false := by simp; omega
    go_enter Try.func22, Try.ntmps22
    go_wp2
    go_ret
    exact ⟨ret_bool (eqB_len hl), 0, rfl⟩


theorem Try.info3 : (Try.prog.info? 3).map (fun i => (i.zero, i.size, i.bytes)) = some (some (.int .i64 0), 1, 8) := by kernel_rfl
theorem Try.size3 : (Try.prog.info? 3).map (·.size) = some 1 := by kernel_rfl

theorem made_ints (n : Nat) : (madeCells (Value.int .i64 0).cells (n * 1)).toList = (List.replicate n (0 : Int)).map (Value.int .i64) := by
  apply List.ext_getElem
  · simp [size_madeCells]
  · intro i h1 h2
    simp [madeCells, Value.cells, Nat.mod_one]

theorem made_box {q : IntKind} {w : World} {base g n : Nat} {t : TypeId} {zs : List Int} (h : w.ownsRow base t 1 (.slice (some ⟨g, 0, none⟩) n n) n (zs.map (Value.int q))) : Box w g t (zs.map (Value.int q)).toArray := by
  rcases h.2 with ⟨h', _⟩ | ⟨g', cap', cur, h', hb, hg, _, _, hcs, htake⟩
  · simp at h'
  · simp only [Value.slice.injEq, Option.some.injEq, Addr.mk.injEq, and_true, true_and] at h'
    obtain ⟨rfl, rfl⟩ := h'
    rw [List.take_of_length_le (by simp [hcs])] at htake
    unfold Box
    rw [hg, ← htake]

theorem lent_0 (zs : List Int) : splice ((List.replicate (zs.length + 1) (0 : Int)).map (Value.int .i64)) 0 (zs.map (Value.int .i64)) = (zs ++ [0]).map (Value.int .i64) := by
  simp [splice]

end Go.Proofs.Ytpapbleabjpbfab
