import Derived.Test.YtpapbleabjpbfabCo
import Derived.Lib.QuietBelow
import Derived.Sort.LotA
import Derived.BigRegion
namespace Go.Proofs.Ytpapbleabjpbfab
open Go.RowKit
set_option linter.unusedVariables false

/-- What sortAll hands to the sort: the method expression. -/
abbrev cmpV : Value := .func (.methodOf 68 "cairn/ring.compare") #[] #[]

theorem meth112 (v : Value) (w : World) : Sem.run Try.prog (method 237 68 v "cairn/ring.compare") w = .ok (97, v) w := by kernel_rfl

theorem compareB (x y : Int × Int) (W : World) : Calls Try.prog 97 #[.agg #[.int .i64 x.1, .int .i64 x.2], .agg #[.int .i64 y.1, .int .i64 y.2]] W fun e w' => e = .returned (.int .i64 (cmpP x y)) ∧ Below W.heap.size W w' :=
  (compare_any x y W).mono fun _ _ ⟨he, hk⟩ => ⟨he, hk.below (Nat.le_refl _) (fun _ e => e.elim)⟩

/-- Points as cells. -/
def flatL : List (Int × Int) → List Value
  | [] => []
  | p :: r => .int .i64 p.1 :: .int .i64 p.2 :: flatL r

theorem flatL_len (l : List (Int × Int)) : (flatL l).length = l.length * 2 := by
  induction l with
  | nil => rfl
  | cons p r ih => simp [flatL, ih]; omega

theorem flatL_append (l m : List (Int × Int)) : flatL (l ++ m) = flatL l ++ flatL m := by
  induction l with
  | nil => rfl
  | cons p r ih => simp [flatL, ih]

theorem flatL_get (l : List (Int × Int)) (sp : List Value) (i : Nat) (h : i < l.length) : (flatL l ++ sp)[i * 2]? = some (.int .i64 l[i].1) ∧ (flatL l ++ sp)[i * 2 + 1]? = some (.int .i64 l[i].2) := by
  induction l generalizing i with
  | nil => simp at h
  | cons p r ih =>
    cases i with
    | zero => simp [flatL]
    | succ i =>
      have := ih i (by simpa using h)
      rw [show (i + 1) * 2 = i * 2 + 1 + 1 by omega, show i * 2 + 1 + 1 + 1 = (i * 2 + 1) + 1 + 1 by omega]
      simpa [flatL] using this

theorem flatL_set (l : List (Int × Int)) (sp : List Value) (i : Nat) (x : Int × Int) (h : i < l.length) : ((flatL l ++ sp).set (i * 2) (.int .i64 x.1)).set (i * 2 + 1) (.int .i64 x.2) = flatL (l.set i x) ++ sp := by
  induction l generalizing i with
  | nil => simp at h
  | cons p r ih =>
    cases i with
    | zero => simp [flatL]
    | succ i =>
      have := ih i (by simpa using h)
      rw [show (i + 1) * 2 = i * 2 + 1 + 1 by omega, show i * 2 + 1 + 1 + 1 = (i * 2 + 1) + 1 + 1 by omega]
      simpa [flatL] using this

def ltP (x y : Int × Int) : Bool := decide (cmpP x y < 0)

/-- The points d lie at the front of block g. -/
def Pts (w : World) (g : Nat) (d : Array (Int × Int)) (sp : List Value) : Prop := Box w g 68 (flatL d.toList ++ sp).toArray

theorem Pts.cell {w : World} {g : Nat} {d : Array (Int × Int)} {sp : List Value} (h : Pts w g d sp) (i : Nat) (hi : i < d.size) :
    w.cell? ⟨g, i * 2, none⟩ = some (.int .i64 d[i]!.1) ∧ w.cell? ⟨g, i * 2 + 1, none⟩ = some (.int .i64 d[i]!.2) := by
  have := flatL_get d.toList sp i (by simpa using hi)
  have e : d.toList[i] = d[i]! := by simp [getElem!_pos d i hi]
  rw [e] at this
  rw [Box.cell h, Box.cell h]
  simpa using this

theorem Pts.frozen {w : World} {g : Nat} {d : Array (Int × Int)} {sp : List Value} (h : Pts w g d sp) (i : Nat) : w.frozen? ⟨g, i, none⟩ = false := Box.frozen h i
theorem Pts.kept {S : Nat → Prop} {w w' : World} {g : Nat} {d : Array (Int × Int)} {sp : List Value} (h : Pts w g d sp) (hk : Kept S w w') (hS : ¬ S g) : Pts w' g d sp := Box.kept h hk hS
theorem Pts.put {w : World} {g : Nat} {d : Array (Int × Int)} {sp : List Value} (h : Pts w g d sp) (i : Nat) (x : Int × Int) (hi : i < d.size) :
    Pts ((w.setCell ⟨g, i * 2, none⟩ (.int .i64 x.1)).setCell ⟨g, i * 2 + 1, none⟩ (.int .i64 x.2)) g (d.setIfInBounds i x) sp := by
  have h2 := (Box.set h (i * 2) (.int .i64 x.1)).set (i * 2 + 1) (.int .i64 x.2)
  unfold Pts
  rw [Array.toList_setIfInBounds, ← flatL_set d.toList sp i x (by simpa using hi)]
  simpa using h2

theorem insInner_lt {d : Array (Int × Int)} {j : Nat} (h : ltP d[j + 1]! d[j]! = true) : Sort.insInner ltP 0 (j + 1) d = Sort.insInner ltP 0 j (Sort.swp d (j + 1) j) := by
  rw [Sort.insInner, if_pos (by rw [h]; simp)]
theorem insInner_ge {d : Array (Int × Int)} {j : Nat} (h : ltP d[j + 1]! d[j]! = false) : Sort.insInner ltP 0 (j + 1) d = d := by
  rw [Sort.insInner, if_neg (by rw [h]; simp)]
theorem insInner_0 (d : Array (Int × Int)) : Sort.insInner ltP 0 0 d = d := by rw [Sort.insInner]

theorem insOuter_step {lt : Int × Int → Int × Int → Bool} {a b i : Nat} {d : Array (Int × Int)} (h : i < b) : Sort.insOuter lt a b i d = Sort.insOuter lt a b (i + 1) (Sort.insInner lt a i d) := by
  rw [Sort.insOuter, if_pos h]

open Go.Sort in
set_option maxRecDepth 100000 in
set_option maxHeartbeats 2000000 in
theorem insertion_any (g cap : Nat) (d : Array (Int × Int)) (sp : List Value) (w : World) (h1 : 1 ≤ d.size) (hm : d.size ≤ 12) (hp : Pts w g d sp) :
    Calls Try.prog 69 #[.slice (some ⟨g, 0, none⟩) d.size cap, .int .i64 0, .int .i64 d.size, cmpV] w fun e w' => e = .returned (.tuple #[]) ∧ Pts w' g (insertionSort ltP d 0 d.size) sp ∧ Kept (Only g) w w' := by
  have HP : Hid (Pts w g d sp) := hp
  clear hp
  have hmix : Try.prog.follows .mixedOrders = true := by kernel_rfl
  go_enter Try.func69, Try.ntmps69
  go_wp2
  go_loopw [8] (fun vi wr => ∃ (i : Nat) (dk : Array (Int × Int)), vi = .int .i64 i ∧ 1 ≤ i ∧ i ≤ d.size ∧ dk.size = d.size ∧ Hid (Pts wr g dk sp) ∧ Hid (insOuter ltP 0 d.size i dk = insOuter ltP 0 d.size 1 d) ∧ Hid (Kept (Only g) w wr)) (fun i _ => d.size - (intOf i).toNat)
  case atStart => exact ⟨1, d, by go_num, Nat.le_refl _, h1, rfl, HP, rfl, Kept.refl _ _⟩
  case round =>
    obtain ⟨i, dk, rfl, hi1, hin, hsz, HPk, HE, HK⟩ := hrel
    clear HP
    by_cases hlt : i < d.size
    · go_wp2
      go_loopw [9] (fun vj wr => ∃ (j : Nat) (dj : Array (Int × Int)), vj = .int .i64 j ∧ j ≤ i ∧ dj.size = d.size ∧ Hid (Pts wr g dj sp) ∧ Hid (insInner ltP 0 j dj = insInner ltP 0 i dk) ∧ Hid (Kept (Only g) w wr)) (fun j _ => (intOf j).toNat)
      case atStart => exact ⟨i, dk, rfl, Nat.le_refl _, hsz, HPk, rfl, HK⟩
      case round =>
        obtain ⟨j, dj, rfl, hji, hszj, HPj, HEj, HKj⟩ := hrel
        clear HPk HK
        by_cases hj0 : 0 < j
        · obtain ⟨jp, rfl⟩ : ∃ jp, j = jp + 1 := ⟨j - 1, by omega⟩
          have ca := HPj.out.cell (jp + 1) (by omega)
          have cb := HPj.out.cell jp (by omega)
          have HLt : Hid (∀ x y, dj[jp + 1]! = x → dj[jp]! = y → ltP dj[jp + 1]! dj[jp]! = decide (cmpP x y < 0)) := by rintro x y rfl rfl; rfl
          obtain ⟨x, hx⟩ : ∃ x, dj[jp + 1]! = x := ⟨_, rfl⟩
          obtain ⟨y, hy⟩ : ∃ y, dj[jp]! = y := ⟨_, rfl⟩
          rw [hx] at ca
          rw [hy] at cb
          have a0 := fun dd os => cell_regrown ca.1 dd os
          have a1 := fun dd os => cell_regrown ca.2 dd os
          have b0 := fun dd os => cell_regrown cb.1 dd os
          have b1 := fun dd os => cell_regrown cb.2 dd os
          have hjd : jp + 1 < d.size := by omega
          have hjd0 : jp < d.size := by omega
          have hji1 : (jp : Int) + 1 < (d.size : Int) := by omega
          have hji0 : (jp : Int) < (d.size : Int) := by omega
          have hge1 : (0 : Int) ≤ (jp : Int) + 1 := by omega
          have hge0 : (0 : Int) ≤ (jp : Int) := by omega
          have hwr : IntKind.i64.wrap (jp : Int) = (jp : Int) := by rw [IntKind.wrap_i64]; omega
          have hmeth := meth112
          go_wp2
          refine wp_region_quiet_below hmix (by kernel_rfl) ?_
          repeat (quiet_step (exact Calls.regrown_of (compareB x y _)))
          refine wpQuiet_nil ?_
          intro _ hw'
          obtain ⟨⟨nq, osq⟩, hw''⟩ := hw'
          obtain ⟨w1, hw1⟩ : ∃ w1, w1 = Sort.grow (redrawn wr nq) osq := ⟨_, rfl⟩
          rw [hw'']
          simp only []
          rw [← hw1]
          have HK1 : Hid (Kept No wr w1) := by rw [hw1]; exact Kept.of_below (below_regrown wr nq osq)
          have HP1 : Hid (Pts w1 g dj sp) := HPj.out.kept HK1.out (fun e => e)
          have HKw : Hid (Kept (Only g) w w1) := HKj.out.then HK1.out.of_no
          clear hw'' hw1 a0 a1 b0 b1 ca cb HPj HKj HK1
          by_cases hc : cmpP x y < 0
          · have hcd : decide (cmpP x y < 0) = true := decide_eq_true hc
            rw [hcd]
            have ca := HP1.out.cell (jp + 1) (by omega)
            have cb := HP1.out.cell jp (by omega)
            rw [hx] at ca
            rw [hy] at cb
            obtain ⟨ca1, ca2⟩ := ca
            obtain ⟨cb1, cb2⟩ := cb
            have f1 := HP1.out.frozen ((jp + 1) * 2)
            have f2 := HP1.out.frozen ((jp + 1) * 2 + 1)
            have f3 := HP1.out.frozen (jp * 2)
            have f4 := HP1.out.frozen (jp * 2 + 1)
            clear hcd
            go_wp2
            go_big_region
            all_goals go_wp2
            go_roundw
            case rel =>
              refine ⟨jp, swp dj (jp + 1) jp, rfl, by omega, by simp [swp, hszj], ?_, ?_, ?_⟩
              · have h1 := (HP1.out.put (jp + 1) y (by omega)).put jp x (by simp; omega)
                rw [← hx, ← hy] at h1 ⊢
                exact h1
              · exact (insInner_lt ((HLt.out x y hx hy).trans (decide_eq_true hc))).symm.trans HEj.out
              · exact (((((HKw.out.setCell (p := ⟨g, (jp + 1) * 2, none⟩) (fun _ => rfl) _).setCell (p := ⟨g, (jp + 1) * 2 + 1, none⟩) (fun _ => rfl) _).setCell (p := ⟨g, jp * 2, none⟩) (fun _ => rfl) _).setCell (p := ⟨g, jp * 2 + 1, none⟩) (fun _ => rfl) _)).drew
            case measure => simp [intOf]
          · have hcd : decide (cmpP x y < 0) = false := decide_eq_false hc
            rw [hcd]
            go_wp2
            go_roundw
            case rel =>
              refine ⟨i + 1, dj, by go_num, by omega, by omega, hszj, HP1, ?_, HKw⟩
              show insOuter _ _ _ _ _ = _
              rw [← HE.out, insOuter_step hlt, ← HEj.out, insInner_ge ((HLt.out x y hx hy).trans hcd)]
            case measure => simp [intOf]; omega
        · obtain rfl : j = 0 := by omega
          have HE2 : Hid (insOuter ltP 0 d.size (i + 1) dj = insOuter ltP 0 d.size 1 d) := by
            show insOuter _ _ _ _ _ = _
            rw [← HE.out, insOuter_step hlt, ← HEj.out, insInner_0]
          clear HE HEj
          go_wp2
          go_quiet (fail)
          go_wp2
          go_roundw
          case rel => exact ⟨i + 1, dj, by go_num, by omega, by omega, hszj, HPj.out.kept (Kept.no_drewN _ _) (fun e => e), HE2, HKj.out.drewN _⟩
          case measure => simp [intOf]; omega
    · obtain rfl : i = d.size := by omega
      go_wp2
      go_end0
      refine ⟨rfl, ?_, HK.out⟩
      unfold insertionSort
      have := HE.out
      rw [insOuter, if_neg (by omega)] at this
      rw [Nat.zero_add, ← this]
      exact HPk.out

end Go.Proofs.Ytpapbleabjpbfab
