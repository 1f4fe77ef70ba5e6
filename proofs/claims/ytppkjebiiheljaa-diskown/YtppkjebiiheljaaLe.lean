import Derived.Test.YtppkjebiiheljaaPr
namespace Go.Proofs.Ytppkjebiiheljaa
open Go.RowKit
set_option linter.unusedVariables false
set_option linter.unusedSimpArgs false

/-- Bytes that were lent, j marks in their spare room. -/
def lentS (s : List Int) (j : Nat) : List Int := s ++ (List.replicate j 201 ++ List.replicate (67 - j) 0)
theorem lentS_len (s : List Int) (j : Nat) (hj : j ≤ 67) : (lentS s j).length = s.length + 67 := by
  unfold lentS
  rw [List.length_append, List.length_append, List.length_replicate, List.length_replicate]
  omega
theorem lentS_at {s : List Int} {j : Nat} (hj : j < 67) : (u8s (lentS s j))[s.length + j]? = some (.int .u8 0) := by
  unfold u8s lentS
  rw [List.getElem?_toArray, List.getElem?_map, List.getElem?_append_right (by omega), show s.length + j - s.length = j by omega, List.getElem?_append_right (by rw [List.length_replicate]; omega), List.getElem?_replicate, List.length_replicate, if_pos (by omega)]
  rfl
theorem lentS_full {s : List Int} {j : Nat} (hj : j < 67) : (u8s (lentS s 67))[s.length + j]? = some (.int .u8 201) := by
  unfold u8s lentS
  rw [List.getElem?_toArray, List.getElem?_map, List.getElem?_append_right (by omega), show s.length + j - s.length = j by omega, List.getElem?_append_left (by rw [List.length_replicate]; omega), List.getElem?_replicate, if_pos (by omega)]
  rfl
theorem lentS_set {s : List Int} {j : Nat} (hj : j < 67) : (u8s (lentS s j)).setIfInBounds (s.length + j) (.int .u8 201) = u8s (lentS s (j + 1)) := by
  unfold u8s lentS
  apply Array.ext_getElem?
  intro i
  rw [Array.getElem?_setIfInBounds]
  simp only [List.getElem?_toArray, List.size_toArray, List.getElem?_map, List.length_map, List.length_append, List.length_replicate]
  by_cases e : s.length + j = i
  · subst e
    rw [if_pos rfl, if_pos (by omega)]
    rw [List.getElem?_append_right (by omega), show s.length + j - s.length = j by omega, List.getElem?_append_left (by rw [List.length_replicate]; omega), List.getElem?_replicate, if_pos (by omega)]
    rfl
  · rw [if_neg e]
    congr 1
    by_cases h0 : i < s.length
    · rw [List.getElem?_append_left h0, List.getElem?_append_left h0]
    · rw [List.getElem?_append_right (l₁ := s) (l₂ := List.replicate j 201 ++ List.replicate (67 - j) 0) (Nat.le_of_not_lt h0), List.getElem?_append_right (l₁ := s) (l₂ := List.replicate (j + 1) 201 ++ List.replicate (67 - (j + 1)) 0) (Nat.le_of_not_lt h0)]
      by_cases h1 : i - s.length < j
      · rw [List.getElem?_append_left (by rw [List.length_replicate]; omega), List.getElem?_append_left (by rw [List.length_replicate]; omega), List.getElem?_replicate, List.getElem?_replicate, if_pos h1, if_pos (by omega)]
      · rw [List.getElem?_append_right (by rw [List.length_replicate]; omega), List.getElem?_append_right (by rw [List.length_replicate]; omega), List.getElem?_replicate, List.getElem?_replicate, List.length_replicate, List.length_replicate]
        by_cases h2 : i - s.length < 67
        · rw [if_pos (by omega), if_pos (by omega)]
        · rw [if_neg (by omega), if_neg (by omega)]
theorem lent_splice (s : List Int) : (splice ((List.replicate (s.length + 67) (0 : Int)).map (Value.int .u8)) 0 (s.map (Value.int .u8))).toArray = u8s (lentS s 0) := by
  unfold splice lentS u8s
  congr 1
  rw [List.take_zero, List.nil_append, List.map_append, Nat.zero_add, List.length_map, ← List.map_drop, List.drop_replicate]
  congr 2
  rw [show s.length + 67 - s.length = 67 by omega]
  rfl
theorem Box.lent {w : World} {g : Nat} {s : List Int} {j : Nat} (h : Box w g 5 (u8s (lentS s j))) : Nums .u8 w (some ⟨g, 0, none⟩) s := by
  have := Box.nums (w := w) h s.length
  unfold lentS at this
  rwa [List.take_append_of_le_length (Nat.le_refl _), List.take_length] at this

set_option maxRecDepth 100000 in
set_option maxHeartbeats 1000000 in
theorem lend_any (a : Option Addr) (m cap : Nat) (s : List Int) (w : World) (hb : Nums .u8 w a s) (hl : s.length = m) (hm : m ≤ 140737488351232) :
    Calls Try.prog 18 #[.slice a m cap] w fun e w' => e = .returned (.slice (some ⟨w.heap.size, 0, none⟩) m (m + 67)) ∧ Box w' w.heap.size 5 (u8s (lentS s 67)) ∧ Kept No w w' := by
  have HB : Hid (Nums .u8 w a s ∧ s.length = m ∧ m ≤ 140737488351232) := ⟨hb, hl, hm⟩
  obtain ⟨i0, hi, hz0, hz1, hz2⟩ := info_parts Try.info5
  have hmi : (m : Int) ≤ 140737488351232 := by omega
  clear hb hl hm
  go_enter Try.func18, Try.ntmps18
  go_wp2_with (first
    | (at_make
       refine wpList_make_full _ rfl (.tmp 7) (.tmp 7) 22 rfl w.heap.size 5 i0 (.int .u8 0) 1 Try.und22 hi hz0 hz1 .i64 .i64 _ _ (m + 67) rfl rfl ?hl ?hc (by have := HB.out.2.2; rw [hz2]; omega) (by have := HB.out.2.2; unfold maxLen; omega) (Nat.le_refl _) ?_
       case hl => first | rfl | omega
       case hc => first | rfl | omega
       intro w1 hown hgrow
       rw [made_u8] at hown
       have HG1 : Hid (Box w1 w.heap.size 5 ((List.replicate (m + 67) (0 : Int)).map (Value.int .u8)).toArray) := made_box hown
       have HK1 : Hid (Kept No w w1) := kept_grown hgrow
       have hcl : Hid ((s.map (Value.int .u8)).length = Nat.min m (m + 67)) := by
         show (s.map (Value.int .u8)).length = Nat.min m (m + 67)
         rw [List.length_map, HB.out.2.1]; exact (Nat.min_eq_left (by omega)).symm
       have hcf : Hid (0 + (s.map (Value.int .u8)).length ≤ ((List.replicate (m + 67) (0 : Int)).map (Value.int .u8)).length) := by
         show 0 + (s.map (Value.int .u8)).length ≤ ((List.replicate (m + 67) (0 : Int)).map (Value.int .u8)).length
         rw [List.length_map, List.length_map, List.length_replicate, HB.out.2.1]; omega
       have hcp : Hid (0 < (s.map (Value.int .u8)).length → (some ⟨w.heap.size, 0, none⟩ : Option Addr) = some ⟨w.heap.size, 0, none⟩ ∧ ∃ ad, a = some ad ∧ ∀ (j : Nat) v, (s.map (Value.int .u8))[j]? = some v → w1.cell? (ad.add j) = some v) := by
         intro h0
         exact ⟨rfl, (HB.out.1.no HK1.out).src h0⟩
       clear hown hgrow)
    | (refine wp_copyO rfl (.tmp 9) (.tmp 10) 22 22 rfl 5 Try.und22 Try.size5 (some ⟨w.heap.size, 0, none⟩) a (m + 67) (m + 67) m cap rfl rfl w.heap.size 0 ((List.replicate (m + 67) (0 : Int)).map (Value.int .u8)) 5 HG1.out (s.map (Value.int .u8)) hcl.out hcp.out hcf.out (num_one .u8 _) ?_
       intro w2 HG2 hk2 hs2
       rw [← HB.out.2.1, lent_splice] at HG2
       have HK2 : Hid (Kept No w w2) := HK1.out.trans hk2 (fun _ e => e) (fun i hi e => by have : i = w.heap.size := e; omega)
       clear hk2 hs2 HG1 hcl hcp hcf))
  go_loopw [4] (fun i wr => ∃ j : Nat, i = .int .i64 ((m + j : Nat) : Int) ∧ Hid (j ≤ 67 ∧ Box wr w.heap.size 5 (u8s (lentS s j)) ∧ Kept No w wr)) (fun i _ => m + 67 - (intOf i).toNat)
  case atStart => exact ⟨0, rfl, Nat.zero_le _, HG2.out, HK2.out⟩
  case round =>
    obtain ⟨j, rfl, HR⟩ := hrel
    obtain ⟨p, hp⟩ : ∃ p, p = m + j := ⟨_, rfl⟩
    rw [← hp]
    by_cases hj : j < 67
    · have c0 := HR.out.2.1.cell p
      rw [hp, ← HB.out.2.1, lentS_at hj, HB.out.2.1, ← hp] at c0
      have f0 := HR.out.2.1.frozen p
      have HS : Hid (Box (wr.setCell ⟨w.heap.size, p, none⟩ (.int .u8 201)) w.heap.size 5 (u8s (lentS s (j + 1)))) := by
        have := HR.out.2.1.set (s.length + j) (.int .u8 201)
        rw [lentS_set hj, HB.out.2.1, ← hp] at this
        exact this
      have h1 : (p : Int) < (m : Int) + 67 := by omega
      have h2 : p < m + 67 := by omega
      have hpi : (p : Int) ≤ 140737488351400 := by omega
      have HP : Hid (p = m + j ∧ j < 67) := ⟨hp, hj⟩
      clear hp hj
      go_wp2
      go_roundw
      case rel => exact ⟨j + 1, by have := HP.out.1; go_num, (by have := HP.out.2; omega : j + 1 ≤ 67), HS.out, HR.out.2.2.setCell (fun e => absurd e (by simp)) _⟩
      case measure => simp [intOf]; omega
    · have hj' : j = 67 := by have := HR.out.1; omega
      have h1 : ¬ ((p : Int) < (m : Int) + 67) := by omega
      have h2 : ¬ (p < m + 67) := by omega
      subst hj'
      have HE : Hid (Box wr w.heap.size 5 (u8s (lentS s 67)) ∧ Kept No w wr) := ⟨HR.out.2.1, HR.out.2.2⟩
      have hmm : m ≤ m + 67 := by omega
      clear hp hj HR
      go_wp2
      go_ret
      exact ⟨rfl, HE.out.1, HE.out.2⟩

set_option maxRecDepth 100000 in
set_option maxHeartbeats 1000000 in
theorem back_any (g : Nat) (a : Option Addr) (m cap : Nat) (s : List Int) (w : World) (hg : Box w g 5 (u8s (lentS s 67))) (hb : Nums .u8 w a s) (hl : s.length = m) (hm : m ≤ 140737488351232) (h8 : U8 s) :
    Calls Try.prog 21 #[.slice (some ⟨g, 0, none⟩) m (m + 67), .slice a m cap] w fun e w' => e = .returned (.bool true) ∧ w' = w := by
  have HB : Hid (Nums .u8 w a s ∧ s.length = m ∧ m ≤ 140737488351232 ∧ U8 s) := ⟨hb, hl, hm, h8⟩
  have HG : Hid (Box w g 5 (u8s (lentS s 67))) := hg
  have hmi : (m : Int) ≤ 140737488351232 := by omega
  clear hb hl hm h8 hg
  go_enter Try.func21, Try.ntmps21
  go_wp2
  go_loopw [6] (fun i wr => ∃ j : Nat, i = .int .i64 ((m + j : Nat) : Int) ∧ Hid (j ≤ 67) ∧ wr = w) (fun i _ => m + 67 - (intOf i).toNat)
  case atStart => exact ⟨0, rfl, Nat.zero_le _, rfl⟩
  case round =>
    obtain ⟨j, rfl, HR, hwr⟩ := hrel
    rw [hwr]
    clear hwr
    obtain ⟨p, hp⟩ : ∃ p, p = m + j := ⟨_, rfl⟩
    rw [← hp]
    by_cases hj : j < 67
    · have c0 := HG.out.cell p
      rw [hp, ← HB.out.2.1, lentS_full hj, HB.out.2.1, ← hp] at c0
      have h1 : (p : Int) < (m : Int) + 67 := by omega
      have h2 : p < m + 67 := by omega
      have hpi : (p : Int) ≤ 140737488351400 := by omega
      have HP : Hid (p = m + j ∧ j < 67) := ⟨hp, hj⟩
      clear hp hj
      go_wp2
      go_roundw
      case rel => exact ⟨j + 1, by have := HP.out.1; go_num, (by have := HP.out.2; omega : j + 1 ≤ 67), trivial⟩
      case measure => simp [intOf]; omega
    · have hj' : j = 67 := by have := HR.out; omega
      have h1 : ¬ ((p : Int) < (m : Int) + 67) := by omega
      have h2 : ¬ (p < m + 67) := by omega
      clear hp hj hj'
      go_wp2_with (go_at_call 14
                   refine Calls.mono (same_any (some ⟨g, 0, none⟩) a m m (m + 67) cap s s w HG.out.lent HB.out.1 HB.out.2.2.2 HB.out.2.2.2 HB.out.2.1 HB.out.2.1) ?_
                   rintro e w' ⟨rfl, hw'⟩
                   rw [hw', decide_eq_true (rfl : s = s)]
                   clear hw' w')
      go_ret
      exact ⟨rfl, rfl⟩

theorem loadNo_any (a : Option Addr) (m cap : Nat) (w : World) (hm : m ≤ 4611686018427387904) (hc : ¬ (m % 512 = 0 ∧ 1 ≤ m / 512 ∧ m / 512 ≤ 65536)) :
    Calls Try.prog 19 #[.slice a m cap] w fun e w' => e = .returned (.tuple #[.pointer none, .int .i64 30]) ∧ w' = w := by
  have HM : Hid (m ≤ 4611686018427387904) := hm
  by_cases h1 : m % 512 = 0
  · have HN : Hid _ := newNo_any ((m / 512 : Nat) : Int) w (by omega)
    clear hc hm
    obtain ⟨q, hq⟩ : ∃ q, q = m / 512 := ⟨_, rfl⟩
    rw [← hq] at HN
    go_enter Try.func19, Try.ntmps19
    go_wp2_with (first
      | (refine wp_rem512 rfl _ rfl m rfl ?_; rw [h1, show ((0 : Nat) : Int) = 0 from rfl]; clear h1)
      | (refine wp_quo512 rfl _ rfl m rfl HM.out ?_; rw [← hq]; clear hq)
      | (go_at_call 10
         refine Calls.mono HN.out ?_
         rintro e w' ⟨rfl, hw'⟩
         rw [hw']
         clear hw' w' HN))
    all_goals go_ret2
    all_goals exact ⟨rfl, rfl⟩
  · obtain ⟨q, hq⟩ : ∃ q, q = m % 512 := ⟨_, rfl⟩
    rw [← hq] at h1
    have h2 : ((q : Int) == 0) = false := by simp; omega
    clear hc hm h1
    go_enter Try.func19, Try.ntmps19
    go_wp2_with (refine wp_rem512 rfl _ rfl m rfl ?_; rw [← hq]; clear hq)
    all_goals go_ret2
    all_goals exact ⟨rfl, rfl⟩

theorem refLoadNo_any (a : Option Addr) (m cap : Nat) (w : World) (hm : m ≤ 4611686018427387904) (hc : ¬ (m % 512 = 0 ∧ 1 ≤ m / 512 ∧ m / 512 ≤ 65536)) :
    Calls Try.prog 20 #[.slice a m cap] w fun e w' => e = .returned (.tuple #[.pointer none, .int .i64 30]) ∧ w' = w := by
  have HM : Hid (m ≤ 4611686018427387904) := hm
  by_cases h1 : m % 512 = 0
  · have HN : Hid _ := refNewNo_any ((m / 512 : Nat) : Int) w (by omega)
    clear hc hm
    obtain ⟨q, hq⟩ : ∃ q, q = m / 512 := ⟨_, rfl⟩
    rw [← hq] at HN
    go_enter Try.func20, Try.ntmps20
    go_wp2_with (first
      | (refine wp_rem512 rfl _ rfl m rfl ?_; rw [h1, show ((0 : Nat) : Int) = 0 from rfl]; clear h1)
      | (refine wp_quo512 rfl _ rfl m rfl HM.out ?_; rw [← hq]; clear hq)
      | (go_at_call 11
         refine Calls.mono HN.out ?_
         rintro e w' ⟨rfl, hw'⟩
         rw [hw']
         clear hw' w' HN))
    all_goals go_ret2
    all_goals exact ⟨rfl, rfl⟩
  · obtain ⟨q, hq⟩ : ∃ q, q = m % 512 := ⟨_, rfl⟩
    rw [← hq] at h1
    have h2 : ((q : Int) == 0) = false := by simp; omega
    clear hc hm h1
    go_enter Try.func20, Try.ntmps20
    go_wp2_with (refine wp_rem512 rfl _ rfl m rfl ?_; rw [← hq]; clear hq)
    all_goals go_ret2
    all_goals exact ⟨rfl, rfl⟩

end Go.Proofs.Ytppkjebiiheljaa
