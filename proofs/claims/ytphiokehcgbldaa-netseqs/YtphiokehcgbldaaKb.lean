import Derived.Test.YtphiokehcgbldaaMa
namespace Go.Proofs.Ytphiokehcgbldaa
open Go.RowKit
set_option linter.unusedVariables false
set_option linter.unusedSimpArgs false

/-- A row of bytes that lies behind a slice's address. -/
abbrev Bytes (w : World) (a : Option Addr) (zs : List Int) : Prop := Nums .u8 w a zs
/-- Each number is a byte. -/
def U8 (zs : List Int) : Prop := ∀ i : Nat, 0 ≤ zs[i]?.getD 0 ∧ zs[i]?.getD 0 ≤ 255

/-- The block of a slice that has bytes. -/
theorem Bytes.lt {w : World} {b off : Nat} {zs : List Int} (h : Bytes w (some ⟨b, off, none⟩) zs) (h0 : 0 < zs.length) : b < w.heap.size := by
  obtain ⟨b', off', e, hc⟩ := h 0 h0
  cases e
  exact World.block_lt_of_cell? w _ hc

/-- A block of bytes that the call itself has made. -/
def Blk (w : World) (g : Nat) (zs : List Int) : Prop := w.heap[g]? = some (.cells (zs.map (Value.int .u8)).toArray 5 (0, 0))

theorem Blk.lt {w : World} {g : Nat} {zs : List Int} (h : Blk w g zs) : g < w.heap.size := (Array.getElem?_eq_some_iff.1 h).1

theorem Blk.cell {w : World} {g : Nat} {zs : List Int} (h : Blk w g zs) (i : Nat) (hi : i < zs.length) : w.cell? ⟨g, i, none⟩ = some (.int .u8 (zs[i]?.getD 0)) := by
  rw [cell_of_row w g i _ 5 (0, 0) h]; simp [List.getElem?_eq_getElem hi]

theorem Blk.frozen {w : World} {g : Nat} {zs : List Int} (h : Blk w g zs) (i : Nat) : w.frozen? ⟨g, i, none⟩ = false := frozen_of_row w g i _ 5 h

theorem Blk.set {w : World} {g : Nat} {zs : List Int} (h : Blk w g zs) (i : Nat) (x : Int) : Blk (w.setCell ⟨g, i, none⟩ (.int .u8 x)) g (zs.set i x) := by
  have := heap_setCell_same w g i _ 5 (.int .u8 x) h
  unfold Blk
  rw [this]
  simp [List.map_set]

theorem Blk.kept {S : Nat → Prop} {w w' : World} {g : Nat} {zs : List Int} (h : Blk w g zs) (hk : Kept S w w') (hS : ¬ S g) : Blk w' g zs :=
  (hk.block g h.lt hS).trans h

theorem Blk.bytes {w : World} {g : Nat} {zs : List Int} (h : Blk w g zs) (off n : Nat) : Bytes w (some ⟨g, off, none⟩) ((zs.drop off).take n) := by
  intro i hi
  refine ⟨g, off, rfl, ?_⟩
  simp only [List.length_take, List.length_drop] at hi
  rw [h.cell _ (by omega), List.getElem?_take, if_pos (by omega), List.getElem?_drop]

theorem Blk.bytes0 {w : World} {g : Nat} {zs : List Int} (h : Blk w g zs) (n : Nat) : Bytes w (some ⟨g, 0, none⟩) (zs.take n) := h.bytes 0 n
theorem Blk.all {w : World} {g : Nat} {zs : List Int} (h : Blk w g zs) : Bytes w (some ⟨g, 0, none⟩) zs := by
  have := h.bytes0 zs.length; rwa [List.take_length] at this

theorem Blk.of_owns {w : World} {base g n : Nat} {zs : List Int} (h : w.ownsRow base 5 1 (.slice (some ⟨g, 0, none⟩) n n) n (zs.map (Value.int .u8))) : Blk w g zs ∧ base ≤ g := by
  rcases h.2 with ⟨h', _⟩ | ⟨g', cap', cur, h', hb, hg, _, _, hcs, htake⟩
  · simp at h'
  · simp only [Value.slice.injEq, Option.some.injEq, Addr.mk.injEq, and_true, true_and] at h'
    obtain ⟨rfl, rfl⟩ := h'
    refine ⟨?_, hb⟩
    rw [List.take_of_length_le (by simp [hcs])] at htake
    unfold Blk
    rw [hg, ← htake]

theorem Blk.owns {w : World} {base g : Nat} {zs : List Int} (h : Blk w g zs) (hb : base ≤ g) (hm : zs.length ≤ maxLen) : w.ownsRow base 5 1 (.slice (some ⟨g, 0, none⟩) zs.length zs.length) zs.length (zs.map (Value.int .u8)) :=
  ⟨by simp, .inr ⟨g, zs.length, _, rfl, hb, h, Nat.le_refl _, hm, by simp, by rw [List.take_of_length_le (by simp)]⟩⟩

theorem U8.take {zs : List Int} (h : U8 zs) (n : Nat) : U8 (zs.take n) := by
  intro i
  rw [List.getElem?_take]
  split
  · exact h i
  · simp

theorem U8.drop {zs : List Int} (h : U8 zs) (n : Nat) : U8 (zs.drop n) := by
  intro i; rw [List.getElem?_drop]; exact h _

theorem U8.nil : U8 [] := by intro i; simp

theorem U8.append {xs ys : List Int} (h : U8 xs) (k : U8 ys) : U8 (xs ++ ys) := by
  intro i
  rw [List.getElem?_append]
  split
  · exact h i
  · exact k _

theorem U8.cons {x : Int} {xs : List Int} (h : 0 ≤ x ∧ x ≤ 255) (k : U8 xs) : U8 (x :: xs) := by
  intro i
  cases i with
  | zero => simpa using h
  | succ i => simpa using k i

theorem U8.replicate (n : Nat) {x : Int} (h : 0 ≤ x ∧ x ≤ 255) : U8 (List.replicate n x) := by
  induction n with
  | zero => exact U8.nil
  | succ n ih => rw [List.replicate_succ]; exact U8.cons h ih

theorem U8.set {xs : List Int} (h : U8 xs) (i : Nat) {x : Int} (hx : 0 ≤ x ∧ x ≤ 255) : U8 (xs.set i x) := by
  intro j
  rw [List.getElem?_set]
  split
  · split
    · simpa using hx
    · simp
  · exact h j


def eqB (xs ys : List Int) : Bool := decide (xs = ys)
theorem eqB_len {xs ys : List Int} (h : xs.length ≠ ys.length) : false = eqB xs ys := by
  unfold eqB; symm; exact decide_eq_false (fun e => h (by rw [e]))
theorem eqB_not {xs ys : List Int} (k : Nat) (h : xs[k]?.getD 0 ≠ ys[k]?.getD 0) : false = eqB xs ys := by
  unfold eqB; symm; exact decide_eq_false (fun e => h (by rw [e]))
theorem eqB_all {xs ys : List Int} (hl : xs.length = ys.length) (h : ∀ j, j < xs.length → xs[j]?.getD 0 = ys[j]?.getD 0) : true = eqB xs ys := by
  unfold eqB; symm; refine decide_eq_true (List.ext_getElem hl fun i h1 h2 => ?_)
  have := h i h1
  simpa [List.getElem?_eq_getElem h1, List.getElem?_eq_getElem h2] using this
theorem eqB_refl (xs : List Int) : eqB xs xs = true := by simp [eqB]
theorem eqB_eq {xs ys : List Int} (h : xs = ys) : eqB xs ys = true := by subst h; simp [eqB]



set_option maxRecDepth 100000 in
set_option maxHeartbeats 400000 in
theorem same_any (a b : Option Addr) (ca cb : Nat) (xs ys : List Int) (w : World) (hm : xs.length ≤ 281474976710656) (hn : ys.length ≤ 281474976710656) (hx : Bytes w a xs) (hy : Bytes w b ys) :
    Calls Try.prog 25 #[.slice a xs.length ca, .slice b ys.length cb] w fun e w' => e = .returned (.bool (eqB xs ys)) ∧ ∃ n, w' = w.drewN n := by
  have HX : Hid (Bytes w a xs) := hx
  have HY : Hid (Bytes w b ys) := hy
  clear hx hy
  by_cases hl : xs.length = ys.length
  · have HL : Hid (xs.length = ys.length) := hl
    go_enter Try.func25, Try.ntmps25
    go_wp2
    go_loopw [5] (fun i wr => ∃ k : Nat, k ≤ xs.length ∧ i = .int .i64 k ∧ Hid (∀ j, j < k → xs[j]?.getD 0 = ys[j]?.getD 0) ∧ ∃ n, wr = w.drewN n) (fun i _ => xs.length - (intOf i).toNat)
    case atStart => exact ⟨0, Nat.zero_le _, rfl, fun j hj => absurd hj (Nat.not_lt_zero _), 0, rfl⟩
    case round =>
      obtain ⟨k, hk, rfl, HE, n, rfl⟩ := hrel
      by_cases hlt : k < xs.length
      · have hlt2 : k < ys.length := by omega
        clear hl
        obtain ⟨b1, o1, rfl, hc1⟩ := HX.out k hlt
        obtain ⟨b2, o2, rfl, hc2⟩ := HY.out k hlt2
        by_cases he : xs[k]?.getD 0 = ys[k]?.getD 0
        · have HE' : Hid (∀ j, j < k + 1 → xs[j]?.getD 0 = ys[j]?.getD 0) := fun j hj => by
            by_cases e : j = k
            · subst e; exact he
            · exact HE.out j (by omega)
          rw [← he] at hc2
          clear he HE
          generalize xs[k]?.getD 0 = z at hc1 hc2
          go_wp2
          go_quiet (fail)
          go_wp2
          go_roundw
          case rel => exact ⟨k + 1, by omega, by go_num, HE', _, rfl⟩
          case measure => simp [intOf]; omega
        · have HN : Hid (xs[k]?.getD 0 ≠ ys[k]?.getD 0) := he
          have hne : (xs[k]?.getD 0 == ys[k]?.getD 0) = false := by simpa using he
          clear he HE
          generalize hz : xs[k]?.getD 0 = z at hc1 hne
          generalize hu : ys[k]?.getD 0 = u at hc2 hne
          have HZ : Hid (xs[k]?.getD 0 = z) := hz
          have HU : Hid (ys[k]?.getD 0 = u) := hu
          clear hz hu
          go_wp2
          go_quiet (fail)
          go_wp2
          go_ret
          exact ⟨ret_bool (eqB_not k HN.out), _, drewN2 _ _ _⟩
      · clear hl
        go_wp2
        go_ret
        exact ⟨ret_bool (eqB_all HL.out (fun j hj => HE.out j (by omega))), _, rfl⟩
  · have hl' : ((xs.length : Int) == (ys.length : Int)) = false := by simp; omega
    go_enter Try.func25, Try.ntmps25
    go_wp2
    go_ret
    exact ⟨ret_bool (eqB_len hl), 0, rfl⟩


theorem Try.info5 : (Try.prog.info? 5).map (fun i => (i.zero, i.size, i.bytes)) = some (some (.int .u8 0), 1, 1) := by kernel_rfl
theorem Try.size5 : (Try.prog.info? 5).map (·.size) = some 1 := by kernel_rfl

theorem made_bytes (n : Nat) : (madeCells (Value.int .u8 0).cells (n * 1)).toList = (List.replicate n (0 : Int)).map (Value.int .u8) := by
  apply List.ext_getElem
  · simp [size_madeCells]
  · intro i h1 h2
    simp [madeCells, Value.cells, Nat.mod_one]

/-- What Lend's loop has made behind j marks. -/
def lent (zs : List Int) (j : Nat) : List Int := zs ++ (List.replicate j 169 ++ List.replicate (5 - j) 0)
theorem lent_len (zs : List Int) (j : Nat) (h : j ≤ 5) : (lent zs j).length = zs.length + 5 := by simp [lent]; omega
theorem lent_set (zs : List Int) (j : Nat) (h : j < 5) : (lent zs j).set (zs.length + j) 169 = lent zs (j + 1) := by
  unfold lent
  rw [List.set_append_right _ _ (by omega), List.set_append_right _ _ (by simp)]
  congr 1
  have e : 5 - j = (5 - (j + 1)) + 1 := by omega
  rw [e, List.replicate_succ]
  simp [List.replicate_succ', List.append_assoc]
theorem lent_0 (zs : List Int) : splice ((List.replicate (zs.length + 5) (0 : Int)).map (Value.int .u8)) 0 (zs.map (Value.int .u8)) = (lent zs 0).map (Value.int .u8) := by
  simp [splice, lent]
theorem lent_5 (zs : List Int) : lent zs 5 = zs ++ [169, 169, 169, 169, 169] := by simp [lent, List.replicate]




theorem lend_made {w1 : World} {B n : Nat} (h : w1.ownsRow B 5 1 (.slice (some ⟨B, 0, none⟩) n n) n (madeCells (Value.int .u8 0).cells (n * 1)).toList) :
    w1.heap[B]? = some (.cells ((List.replicate n (0 : Int)).map (Value.int .u8)).toArray 5 (0, 0)) := by
  rw [made_bytes] at h
  exact (Blk.of_owns h).1

theorem u8_one (zs : List Int) : ∀ v ∈ zs.map (Value.int .u8), v.oneCell' = true := by
  intro v hv
  obtain ⟨z, _, rfl⟩ := List.mem_map.1 hv
  rfl


set_option maxRecDepth 100000 in
set_option maxHeartbeats 400000 in
theorem lend_any (a : Option Addr) (cap : Nat) (zs : List Int) (w : World) (hm : zs.length ≤ 140737488355328) (hb : Bytes w a zs) :
    Calls Try.prog 23 #[.slice a zs.length cap] w fun e w' => e = .returned (.slice (some ⟨w.heap.size, 0, none⟩) zs.length (zs.length + 5)) ∧ Blk w' w.heap.size (lent zs 5) ∧ Kept No w w' := by
  have HB : Hid (Bytes w a zs) := hb
  clear hb
  obtain ⟨i0, hi, hz0, hz1, hz2⟩ := info_parts Try.info5
  go_enter Try.func23, Try.ntmps23
  go_wp2_with (first
    | (at_make; go_must (refine wpList_make_full _ rfl (.tmp 7) (.tmp 7) 35 rfl w.heap.size 5 i0 (.int .u8 0) 1 Try.underlying35 hi hz0 hz1 .i64 .i64 _ _ (zs.length + 5) rfl rfl (by omega) (by omega) (by rw [hz2]; omega) (by unfold maxLen; omega) (Nat.le_refl _) ?_; intro w1 hown hgrow; have HG : Hid _ := lend_made hown; have HK : Hid _ := kept_grown hgrow; clear hown hgrow))
    | (refine wpList_copy_splice rfl (.tmp 9) (.tmp 10) 35 35 rfl 5 Try.underlying35 Try.size5 _ a (zs.length + 5) (zs.length + 5) zs.length cap rfl rfl w.heap.size 0 ((List.replicate (zs.length + 5) (0 : Int)).map (Value.int .u8)) 5 HG.out (zs.map (Value.int .u8)) (by rw [List.length_map]; exact (Nat.min_eq_left (by omega)).symm) (fun h0 => ⟨rfl, (HB.out.no HK.out).src h0⟩) (by simp) (u8_one zs) w.heap.size w (HK.out.below (Nat.le_refl _) (fun _ e => e.elim)) (Nat.le_refl _) ?_; intro w2 HG2 hbel; have HB2 : Hid (Blk w2 w.heap.size (lent zs 0)) := (by have := HG2.out; rw [lent_0] at this; exact this); have HK2 : Hid (Kept No w w2) := Kept.of_below hbel; clear HG2 hbel HK HG))
  go_loopw [4] (fun i wr => ∃ j : Nat, j ≤ 5 ∧ i = .int .i64 ((zs.length + j : Nat) : Int) ∧ Hid (Blk wr w.heap.size (lent zs j)) ∧ Hid (Kept No w wr)) (fun i _ => zs.length + 5 - (intOf i).toNat)
  case atStart => exact ⟨0, Nat.zero_le _, rfl, HB2, HK2⟩
  case round =>
    obtain ⟨j, hj, rfl, HBr, HKr⟩ := hrel
    clear HB2 HK2
    by_cases hlt : j < 5
    · have hfr := HBr.out.frozen (zs.length + j)
      have hcl := HBr.out.cell (zs.length + j) (by rw [lent_len _ _ hj]; omega)
      generalize (lent zs j)[zs.length + j]?.getD 0 = z at hcl
      have HBn : Hid (Blk (wr.setCell ⟨w.heap.size, zs.length + j, none⟩ (.int .u8 169)) w.heap.size (lent zs (j + 1))) := by
        have := HBr.out.set (zs.length + j) 169
        rw [lent_set _ _ hlt] at this
        exact this
      have HKn : Hid (Kept No w (wr.setCell ⟨w.heap.size, zs.length + j, none⟩ (.int .u8 169))) := HKr.out.setCell (fun h => absurd h (Nat.lt_irrefl _)) _
      clear HBr HKr
      go_wp2
      go_roundw
      case rel => exact ⟨j + 1, by omega, by go_num, HBn, HKn⟩
      case measure => simp [intOf]; omega
    · obtain rfl : j = 5 := by omega
      go_wp2
      go_ret
      exact ⟨rfl, HBr.out, HKr.out⟩


theorem lent_take (zs : List Int) : (lent zs 5).take zs.length = zs := by simp [lent]
theorem lent_mark (zs : List Int) (j : Nat) (h : j < 5) : (lent zs 5)[zs.length + j]?.getD 0 = 169 := by
  rw [lent, List.getElem?_append_right (by omega), List.getElem?_append_left (by simp; omega), List.getElem?_replicate, if_pos (by omega)]
  rfl


set_option maxRecDepth 100000 in
set_option maxHeartbeats 400000 in
theorem back_any (g : Nat) (a : Option Addr) (cap : Nat) (zs : List Int) (w : World) (hm : zs.length ≤ 140737488355328) (hB : Blk w g (lent zs 5)) (hb : Bytes w a zs) :
    Calls Try.prog 24 #[.slice (some ⟨g, 0, none⟩) zs.length (zs.length + 5), .slice a zs.length cap] w fun e w' => e = .returned (.bool true) ∧ Kept (Only g) w w' := by
  have HB : Hid (Bytes w a zs) := hb
  have HG : Hid (Blk w g (lent zs 5)) := hB
  clear hb hB
  have HS : Hid (Bytes w (some ⟨g, 0, none⟩) zs) := (by have := HG.out.bytes0 zs.length; rw [lent_take] at this; exact this)
  go_enter Try.func24, Try.ntmps24
  go_wp2_with fail
  refine (same_any _ _ _ _ zs zs _ (by omega) (by omega) HS.out HB.out).mono ?_
  rintro e w1 ⟨rfl, n, rfl⟩
  rw [eqB_refl]
  have HG1 : Hid (Blk (w.drewN n) g (lent zs 5)) := HG.out
  have HK1 : Hid (Kept (Only g) w (w.drewN n)) := (Kept.no_drewN w n).of_no
  clear HG HB HS
  generalize w.drewN n = w1 at HG1 HK1
  go_wp2
  go_loop [5, 7] (fun o i => ∃ j : Nat, j ≤ 5 ∧ i = .int .i64 ((zs.length + j : Nat) : Int) ∧ o = .bool true) (fun _ i => zs.length + 5 - (intOf i).toNat)
  case atStart => exact ⟨0, Nat.zero_le _, rfl, rfl⟩
  case round =>
    obtain ⟨j, hj, rfl, rfl⟩ := hrel
    by_cases hlt : j < 5
    · have hcl := HG1.out.cell (zs.length + j) (by rw [lent_len _ _ (Nat.le_refl _)]; omega)
      rw [lent_mark _ _ hlt] at hcl
      go_wp2
      go_round
      case rel => exact ⟨j + 1, by omega, by go_num, rfl⟩
      case measure => simp [intOf]; omega
    · obtain rfl : j = 5 := by omega
      go_wp2
      go_loopw [8] (fun i wr => ∃ k : Nat, k ≤ zs.length + 5 ∧ i = .int .i64 (k : Int) ∧ Hid (∃ ms : List Int, ms.length = zs.length + 5 ∧ Blk wr g ms) ∧ Hid (Kept (Only g) w wr)) (fun i _ => zs.length + 5 - (intOf i).toNat)
      case atStart => exact ⟨0, Nat.zero_le _, rfl, ⟨_, lent_len _ _ (Nat.le_refl _), HG1.out⟩, HK1⟩
      case round =>
        obtain ⟨k, hk, rfl, HM, HK⟩ := hrel
        clear HG1 HK1
        by_cases hlt2 : k < zs.length + 5
        · obtain ⟨ms, hml, hmb⟩ := HM.out
          have hfr := hmb.frozen k
          have hcl := hmb.cell k (by omega)
          generalize ms[k]?.getD 0 = z at hcl
          have HMn : Hid (∃ ms : List Int, ms.length = zs.length + 5 ∧ Blk (wr.setCell ⟨g, k, none⟩ (.int .u8 94)) g ms) := ⟨_, by rw [List.length_set]; exact hml, hmb.set k 94⟩
          have HKn : Hid (Kept (Only g) w (wr.setCell ⟨g, k, none⟩ (.int .u8 94))) := HK.out.setCell (p := ⟨g, k, none⟩) (fun _ => (rfl : g = g)) _
          clear HM HK hml hmb
          go_wp2
          go_roundw
          case rel => exact ⟨k + 1, by omega, by go_num, HMn, HKn⟩
          case measure => simp [intOf]; omega
        · go_wp2
          go_ret
          exact ⟨rfl, HK.out⟩

end Go.Proofs.Ytphiokehcgbldaa
