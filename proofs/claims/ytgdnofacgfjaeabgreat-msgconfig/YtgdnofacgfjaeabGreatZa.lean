import Derived.Test.YtgdnofacgfjaeabGreatE
import Derived.WalkKit
import Derived.Deep.DeepMust
import Derived.Deep.QuietTactic
import Derived.Deep.Draws
import Derived.BigQuiet
import Derived.WalkSmall
import Derived.Laws.Closers25b
namespace Go.Proofs.YtgdnofacgfjaeabGreat
open Go.RowKit
set_option linter.unusedVariables false

/-- A row of numbers of one kind behind a slice's address. -/
def Nums (q : IntKind) (w : World) (a : Option Addr) (zs : List Int) : Prop :=
  ∀ i, i < zs.length → ∃ b off, a = some ⟨b, off, none⟩ ∧ w.cell? ⟨b, off + i, none⟩ = some (.int q (zs[i]?.getD 0))

theorem Nums.kept {q : IntKind} {S : Nat → Prop} {w w' : World} {a : Option Addr} {zs : List Int} (h : Nums q w a zs) (hk : Kept S w w') (hS : ∀ b off, a = some ⟨b, off, none⟩ → ¬ S b) : Nums q w' a zs := by
  intro i hi
  obtain ⟨b, off, rfl, hc⟩ := h i hi
  exact ⟨b, off, rfl, hk.cell hc (hS b off rfl)⟩

theorem Nums.no {q : IntKind} {w w' : World} {a : Option Addr} {zs : List Int} (h : Nums q w a zs) (hk : Kept No w w') : Nums q w' a zs := h.kept hk (fun _ _ _ e => e)

theorem Nums.nil (q : IntKind) (w : World) (a : Option Addr) : Nums q w a [] := fun i hi => absurd hi (Nat.not_lt_zero _)

theorem addr_add9 (b off j : Nat) : (⟨b, off, none⟩ : Addr).add j = ⟨b, off + j, none⟩ := by unfold Addr.add; split <;> simp_all

theorem Nums.src {q : IntKind} {w : World} {a : Option Addr} {zs : List Int} (hb : Nums q w a zs) (h0 : 0 < (zs.map (Value.int q)).length) :
    ∃ ad, a = some ad ∧ ∀ (j : Nat) v, (zs.map (Value.int q))[j]? = some v → w.cell? (ad.add j) = some v := by
  simp only [List.length_map] at h0
  obtain ⟨b, off, rfl, _⟩ := hb 0 h0
  refine ⟨_, rfl, fun j v hv => ?_⟩
  have hj : j < zs.length := by
    have := (List.getElem?_eq_some_iff.1 hv).1
    simpa using this
  obtain ⟨b', off', e, hc⟩ := hb j hj
  cases e
  rw [addr_add9, hc]
  simp [List.getElem?_eq_getElem hj] at hv ⊢
  exact hv

theorem num_one (q : IntKind) (zs : List Int) : ∀ v ∈ zs.map (Value.int q), v.oneCell' = true := by
  intro v hv
  obtain ⟨z, _, rfl⟩ := List.mem_map.1 hv
  rfl

/-- A block of cells that the call itself has made. -/
def Box (w : World) (g : Nat) (t : TypeId) (cs : Array Value) : Prop := w.heap[g]? = some (.cells cs t (0, 0))
theorem Box.lt {w : World} {g : Nat} {t : TypeId} {cs : Array Value} (h : Box w g t cs) : g < w.heap.size := (Array.getElem?_eq_some_iff.1 h).1
theorem Box.cell {w : World} {g : Nat} {t : TypeId} {cs : Array Value} (h : Box w g t cs) (i : Nat) : w.cell? ⟨g, i, none⟩ = cs[i]? := cell_of_row w g i _ t (0, 0) h
theorem Box.frozen {w : World} {g : Nat} {t : TypeId} {cs : Array Value} (h : Box w g t cs) (i : Nat) : w.frozen? ⟨g, i, none⟩ = false := frozen_of_row w g i _ t h
theorem Box.set {w : World} {g : Nat} {t : TypeId} {cs : Array Value} (h : Box w g t cs) (i : Nat) (v : Value) : Box (w.setCell ⟨g, i, none⟩ v) g t (cs.setIfInBounds i v) := heap_setCell_same w g i _ t v h
theorem Box.kept {S : Nat → Prop} {w w' : World} {g : Nat} {t : TypeId} {cs : Array Value} (h : Box w g t cs) (hk : Kept S w w') (hS : ¬ S g) : Box w' g t cs := (hk.block g h.lt hS).trans h
theorem Box.new (w : World) (t : TypeId) (cs : Array Value) : Box (w.alloc (.cells cs t)) w.heap.size t cs := by
  unfold Box World.alloc; simp
theorem Box.alloc {w : World} {g : Nat} {t : TypeId} {cs : Array Value} (h : Box w g t cs) (o : Obj) : Box (w.alloc o) g t cs := (Below.heap_alloc _ _ _ h.lt).trans h
theorem Box.nums {w : World} {g : Nat} {t : TypeId} {q : IntKind} {zs : List Int} (h : Box w g t (zs.map (Value.int q)).toArray) (n : Nat) : Nums q w (some ⟨g, 0, none⟩) (zs.take n) := by
  intro i hi
  refine ⟨g, 0, rfl, ?_⟩
  simp only [List.length_take] at hi
  rw [Nat.zero_add, h.cell, List.getElem?_take, if_pos (by omega)]
  simp [List.getElem?_eq_getElem (show i < zs.length by omega)]

/-- From lo to hi. -/
def inB (n lo hi : Int) : Bool := decide (lo ≤ n) && decide (n ≤ hi)

theorem within_any (n lo hi : Int) (w : World) : Calls Tryz.prog 92 #[.int .i64 n, .int .i64 lo, .int .i64 hi] w fun e w' => e = .returned (.bool (inB n lo hi)) ∧ w' = w := by
  go_enter Tryz.func92, Tryz.ntmps92
  go_wp2
  all_goals go_ret
  all_goals refine ⟨ret_bool ?_, rfl⟩
  all_goals (simp_all [inB]; try omega)

theorem rwithin_any (n lo hi : Int) (w : World) : Calls Tryz.prog 116 #[.int .i64 n, .int .i64 lo, .int .i64 hi] w fun e w' => e = .returned (.bool (inB n lo hi)) ∧ w' = w := by
  go_enter Tryz.func116, Tryz.ntmps116
  go_wp2
  all_goals go_ret
  all_goals refine ⟨ret_bool ?_, rfl⟩
  all_goals (simp_all [inB]; try omega)


theorem gwithin_any (n lo hi : Int) (w : World) : Calls Tryz.prog 180 #[.int .i64 n, .int .i64 lo, .int .i64 hi] w fun e w' => e = .returned (.bool (inB n lo hi)) ∧ w' = w := by
  go_enter Tryz.func180, Tryz.ntmps180
  go_wp2
  all_goals go_ret
  all_goals refine ⟨ret_bool ?_, rfl⟩
  all_goals (simp_all [inB]; try omega)

/-- Which key may be, Buckets being bu. -/
def keyB (kd a b c bu : Int) : Bool :=
  if kd = 1 then inB a 1 255 && (inB b 1 1099511627776 && inB c 0 1048575)
  else if kd = 2 then inB a 0 (bu - 1) && ((b == 0) && (c == 0))
  else if kd = 3 then inB a 0 (bu - 1) && (inB b 1 1048576 && (c == 0))
  else false

/-- A key's and a configuration's values. -/
abbrev keyV (kd a b c : Int) : Value := .agg #[.int .i64 kd, .int .i64 a, .int .i64 b, .int .i64 c]
abbrev cfgV (s : Value) (f p bu bl ro : Int) : Value := .agg #[s, .int .i64 f, .int .i64 p, .int .i64 bu, .int .i64 bl, .int .i64 ro]

set_option maxHeartbeats 1000000 in
theorem keyRight_any (kd a b c : Int) (sa : Option Addr) (sn sc : Nat) (f p bu bl ro : Int) (w : World) (h0 : 0 ≤ bu) (h1 : bu ≤ 9223372036854775807) :
    Calls Tryz.prog 144 #[keyV kd a b c, cfgV (.slice sa sn sc) f p bu bl ro] w fun e w' => e = .returned (.bool (keyB kd a b c bu)) ∧ Kept No w w' := by
  go_enter Tryz.func144, Tryz.ntmps144
  go_wp2_with (go_at_call 180; refine (gwithin_any _ _ _ _).mono ?_; rintro e w' ⟨rfl, rfl⟩)
  all_goals go_ret
  all_goals refine ⟨ret_bool ?_, ((Kept.refl No w).alloc _).alloc _⟩
  all_goals simp_all [keyB]

/-- The servers up to n: ids, unlike. -/
def Good (zs : List Int) (n : Nat) : Prop := ∀ i : Nat, i < n → (1 ≤ zs[i]?.getD 0 ∧ zs[i]?.getD 0 ≤ 255) ∧ ∀ k : Nat, k < i → zs[k]?.getD 0 ≠ zs[i]?.getD 0
def HeadOk (zs : List Int) (f : Int) : Prop := 0 ≤ f ∧ f ≤ 3 ∧ 2 * f + 1 ≤ (zs.length : Int) ∧ zs.length ≤ 64

open Classical in
noncomputable def cfgB (zs : List Int) (f p bu bl ro : Int) : Bool :=
  decide (HeadOk zs f ∧ Good zs zs.length) && (inB p 1 64 && (inB bu 1 256 && (inB bl 1 4096 && inB ro 1 256)))

open Classical in
theorem cfgB_no {zs : List Int} {f p bu bl ro : Int} (h : ¬ (HeadOk zs f ∧ Good zs zs.length)) : false = cfgB zs f p bu bl ro := by
  unfold cfgB; rw [decide_eq_false h]; rfl
open Classical in
theorem cfgB_yes {zs : List Int} {f p bu bl ro : Int} (h : HeadOk zs f ∧ Good zs zs.length) : (inB p 1 64 && (inB bu 1 256 && (inB bl 1 4096 && inB ro 1 256))) = cfgB zs f p bu bl ro := by
  unfold cfgB; rw [decide_eq_true h]; rfl

set_option maxRecDepth 100000 in
set_option maxHeartbeats 2000000 in
theorem is_any (a : Option Addr) (cap : Nat) (zs : List Int) (f p bu bl ro : Int) (w : World) (hb : Nums .i64 w a zs) :
    Calls Tryz.prog 61 #[cfgV (.slice a zs.length cap) f p bu bl ro] w fun e w' => e = .returned (.bool (cfgB zs f p bu bl ro)) ∧ Kept No w w' := by
  have HB : Hid (Nums .i64 w a zs) := hb
  clear hb
  by_cases hh : HeadOk zs f
  · have HH : Hid (HeadOk zs f) := hh
    obtain ⟨h1, h2, h3, h4⟩ := hh
    have h3' : ¬ ((zs.length : Int) < 2 * f + 1) := by omega
    have h4' : ¬ ((zs.length : Int) > 64) := by omega
    go_enter Tryz.func61, Tryz.ntmps61
    go_wp2
    obtain ⟨w0, hw0⟩ : ∃ w0, w0 = w.alloc (.cells #[.slice a zs.length cap, .int .i64 f, .int .i64 p, .int .i64 bu, .int .i64 bl, .int .i64 ro] 24) := ⟨_, rfl⟩
    rw [← hw0]
    have HC : Hid (Box w0 w.heap.size 24 #[.slice a zs.length cap, .int .i64 f, .int .i64 p, .int .i64 bu, .int .i64 bl, .int .i64 ro]) := by rw [hw0]; exact Box.new _ _ _
    have HK0 : Hid (Kept No w w0) := by rw [hw0]; exact (Kept.refl No w).alloc _
    have c0 := HC.out.cell 0
    have c2 := HC.out.cell 2
    have c3 := HC.out.cell 3
    have c4 := HC.out.cell 4
    have c5 := HC.out.cell 5
    simp only [List.getElem?_toArray, List.getElem?_cons_zero, List.getElem?_cons_succ] at c0 c2 c3 c4 c5
    have HB0 : Hid (Nums .i64 w0 a zs) := HB.out.no HK0.out
    clear hw0 HC HB h1 h2 h3 h3' h4'
    go_loopw [3] (fun i wr => ∃ j : Nat, j ≤ zs.length ∧ i = .int .i64 j ∧ Hid (Good zs j) ∧ ∃ n, wr = w0.drewN n) (fun i _ => zs.length - (intOf i).toNat)
    case atStart => exact ⟨0, Nat.zero_le _, rfl, fun j hj => absurd hj (Nat.not_lt_zero _), 0, rfl⟩
    case round =>
      obtain ⟨j, hj, rfl, HG, n, rfl⟩ := hrel
      by_cases hlt : j < zs.length
      · obtain ⟨b, off, rfl, hc⟩ := HB0.out j hlt
        have HZ : Hid (∃ z, zs[j]?.getD 0 = z) := ⟨_, rfl⟩
        obtain ⟨z, hz⟩ := HZ.out
        rw [hz] at hc
        have HZ2 : Hid (zs[j]?.getD 0 = z) := hz
        clear hz HZ
        by_cases hr : 1 ≤ z ∧ z ≤ 255
        · obtain ⟨hr1, hr2⟩ := hr
          go_wp2
          go_loopw [4] (fun i wr => ∃ k : Nat, k ≤ j ∧ i = .int .i64 k ∧ Hid (∀ m : Nat, m < k → zs[m]?.getD 0 ≠ z) ∧ ∃ n, wr = w0.drewN n) (fun i _ => j - (intOf i).toNat)
          case atStart => exact ⟨0, Nat.zero_le _, rfl, fun m hm => absurd hm (Nat.not_lt_zero _), _, rfl⟩
          case round =>
            obtain ⟨k, hk, rfl, HE, n2, rfl⟩ := hrel
            by_cases hkj : k < j
            · obtain ⟨b', off', e', hc'⟩ := HB0.out k (by omega)
              cases e'
              obtain ⟨y, hy⟩ : ∃ y, zs[k]?.getD 0 = y := ⟨_, rfl⟩
              rw [hy] at hc'
              have HY : Hid (zs[k]?.getD 0 = y) := hy
              clear hy
              by_cases hyz : y = z
              · subst hyz
                have HX : Hid (¬ Good zs zs.length) := fun hg => (hg j hlt).2 k hkj (by rw [HY.out, HZ2.out])
                clear HE
                go_wp2
                go_quiet (fail)
                go_wp2
                go_ret
                exact ⟨ret_bool (cfgB_no (fun h => HX.out h.2)), (HK0.out.drewN _).drewN _⟩
              · have hyz' : (y == z) = false := by simpa using hyz
                have HE' : Hid (∀ m : Nat, m < k + 1 → zs[m]?.getD 0 ≠ z) := fun m hm => by
                  by_cases e : m = k
                  · rw [e, HY.out]; exact hyz
                  · exact HE.out m (by omega)
                clear HE hyz
                go_wp2
                go_quiet (fail)
                go_wp2
                go_roundw
                case rel => exact ⟨k + 1, by omega, by go_num, HE', _, rfl⟩
                case measure => simp [intOf]; omega
            · obtain rfl : k = j := by omega
              go_wp2
              go_roundw
              case rel =>
                refine ⟨k + 1, by omega, by go_num, fun i hi => ?_, _, rfl⟩
                by_cases e : i = k
                · subst e; rw [HZ2.out]; exact ⟨⟨hr1, hr2⟩, HE.out⟩
                · exact HG.out i (by omega)
              case measure => simp [intOf]; omega
        · have HX : Hid (¬ Good zs zs.length) := fun hg => hr (by have := (hg j hlt).1; rwa [HZ2.out] at this)
          have hr' : z < 1 ∨ 255 < z := by omega
          clear hr HG
          rcases hr' with h | h
          · go_wp2
            all_goals go_ret
            all_goals exact ⟨ret_bool (cfgB_no (fun h => HX.out h.2)), HK0.out.drewN _⟩
          · have h' : ¬ z < 1 := by omega
            go_wp2
            all_goals go_ret
            all_goals exact ⟨ret_bool (cfgB_no (fun h => HX.out h.2)), HK0.out.drewN _⟩
      · obtain rfl : j = zs.length := by omega
        go_wp2_with (go_at_call 116; refine (rwithin_any _ _ _ _).mono ?_; rintro e w' ⟨rfl, rfl⟩)
        all_goals go_ret
        all_goals refine ⟨ret_bool ?_, HK0.out.drewN _⟩
        all_goals rw [← cfgB_yes ⟨HH.out, HG.out⟩]
        all_goals simp_all
  · have HN : Hid (¬ HeadOk zs f) := hh
    clear hh
    go_enter Tryz.func61, Tryz.ntmps61
    go_wp2
    all_goals first
      | (go_ret; exact ⟨ret_bool (cfgB_no (fun h => HN.out h.1)), (Kept.refl No w).alloc _⟩)
      | (exfalso; exact HN.out ⟨by omega, by omega, by omega, by omega⟩)


end Go.Proofs.YtgdnofacgfjaeabGreat
