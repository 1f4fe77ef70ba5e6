import Derived.Test.YtppkjebiiheljaaRw
namespace Go.Proofs.Ytppkjebiiheljaa
open Go.RowKit
set_option linter.unusedVariables false
set_option linter.unusedSimpArgs false

theorem flatN_get {c : Nat → List Int} (hc : ∀ m, (c m).length = 512) {i j : Nat} (hj : j < 512) : ∀ N, i < N → (flatN N c)[i * 512 + j]? = (c i)[j]?
  | 0, h => by omega
  | N + 1, h => by
    have hl := flatN_len c hc N
    rw [flatN]
    by_cases e : i = N
    · subst e
      rw [List.getElem?_append_right (by omega), hl, show i * 512 + j - i * 512 = j by omega]
    · rw [List.getElem?_append_left (by rw [hl]; omega), flatN_get hc hj N (by omega)]

set_option maxRecDepth 100000 in
/-- A sector of zeros needs no copy. -/
theorem half_zero {c : Nat → List Int} (hc : ∀ m, (c m).length = 512) {N i : Nat} (hi : i < N) (hz : c i = zs) : half (flatN N c) (i * 512) = half (flatN N c) ((i + 1) * 512) := by
  have hl := flatN_len c hc N
  have hle : (i + 1) * 512 ≤ N * 512 := Nat.mul_le_mul_right 512 hi
  apply List.ext_getElem?
  intro k
  unfold half
  by_cases h1 : k < i * 512
  · rw [List.getElem?_append_left (by rw [List.length_take]; omega), List.getElem?_append_left (by rw [List.length_take]; omega), List.getElem?_take, List.getElem?_take, if_pos h1, if_pos (by omega)]
  · rw [List.getElem?_append_right (by rw [List.length_take]; omega), List.length_take, Nat.min_eq_left (by omega), List.getElem?_replicate]
    by_cases h2 : k < (i + 1) * 512
    · rw [List.getElem?_append_left (by rw [List.length_take]; omega), List.getElem?_take, if_pos h2, if_pos (by omega)]
      obtain ⟨j, rfl⟩ : ∃ j, k = i * 512 + j := ⟨k - i * 512, by omega⟩
      rw [flatN_get hc (by omega) N hi, hz]
      unfold zs
      rw [List.getElem?_replicate, if_pos (by omega)]
    · rw [List.getElem?_append_right (by rw [List.length_take]; omega), List.length_take, Nat.min_eq_left (by omega), List.getElem?_replicate]
      by_cases h3 : k < N * 512
      · rw [if_pos (by omega), if_pos (by omega)]
      · rw [if_neg (by omega), if_neg (by omega)]

set_option maxRecDepth 100000 in
set_option maxHeartbeats 2000000 in
theorem refImage_any (r gs : Nat) (F : Nat → Prop) (x : DS) (w : World) (h : RD w r gs F x) (hf : Fine x) :
    Calls Try.prog 36 #[.pointer (some ⟨r, 0, none⟩)] w fun e w' => e = .returned (.slice (some ⟨w.heap.size, 0, none⟩) (x.N * 512) (x.N * 512)) ∧ Box w' w.heap.size 5 (u8s (flatN x.N x.c)) ∧ Kept No w w' := by
  obtain ⟨arm, lf, tn, vs, h⟩ := h
  have c0 := h.cells.1
  obtain ⟨i0, hi, hz0, hz1, hz2⟩ := info_parts Try.info5
  obtain ⟨M, hM⟩ : ∃ M, M = x.N * 512 := ⟨_, rfl⟩
  obtain ⟨X, hX⟩ : ∃ X, X = flatN x.N x.c := ⟨_, rfl⟩
  have hXl : X.length = M := by rw [hX, hM]; exact flatN_len _ hf.len _
  rw [← hM, ← hX]
  have HM : Hid (M = x.N * 512 ∧ X.length = M ∧ X = flatN x.N x.c ∧ Fine x) := ⟨hM, hXl, hX, hf⟩
  have HR : Hid (Rdk w r gs F x arm lf tn vs) := h
  have hN : (x.N : Int) ≤ 65536 := by have := hf.n2; omega
  have hMi : (M : Int) = 512 * (x.N : Int) := by omega
  have hMb : (M : Int) ≤ 33554432 := by omega
  have hwr : IntKind.i64.wrap (512 * (x.N : Int)) = (M : Int) := by rw [IntKind.wrap_i64]; omega
  clear h hf hX hXl hM hMi
  go_enter Try.func36, Try.ntmps36
  go_wp2_with (at_make
               refine wpList_make_full _ rfl (.tmp 12) (.tmp 12) 22 rfl w.heap.size 5 i0 (.int .u8 0) 1 Try.und22 hi hz0 hz1 .i64 .i64 _ _ M rfl rfl ?hl ?hc (by rw [hz2]; omega) (by unfold maxLen; omega) (Nat.le_refl _) ?_
               case hl => first | rfl | omega
               case hc => first | rfl | omega
               intro w1 hown hgrow
               rw [made_u8, ← HM.out.2.1, ← half_0] at hown
               have HG1 : Hid (Box w1 w.heap.size 5 (u8s (half X 0))) := made_box hown
               have HK1 : Hid (Kept No w w1) := kept_grown hgrow
               clear hown hgrow c0 hwr)
  go_loopw [4] (fun i wr => ∃ k : Nat, i = .int .i64 k ∧ Hid (k ≤ x.N ∧ Box wr w.heap.size 5 (u8s (half X (k * 512))) ∧ Kept No w wr)) (fun i _ => x.N - (intOf i).toNat)
  case atStart => exact ⟨0, rfl, Nat.zero_le _, HG1.out, HK1.out⟩
  case round =>
    obtain ⟨k, rfl, HI⟩ := hrel
    have hXr := HR.out.kept HI.out.2.2 (fun e => e) (fun e => e) (fun _ _ _ e => e)
    have d0 := hXr.cells.1
    by_cases hk : (k : Int) < (x.N : Int)
    · have hk' : k < x.N := by omega
      have d1 := hXr.row.cell k
      rw [List.getElem?_toArray] at d1
      have HK : Hid (k < x.N) := hk'
      rcases hXr.sec k hk' with ⟨e, hz⟩ | ⟨g, e, hb, hF⟩
      · rw [e] at d1
        have HS : Hid (Box wr w.heap.size 5 (u8s (half X ((k + 1) * 512)))) := by
          have := HI.out.2.1
          rw [HM.out.2.2.1, half_zero HM.out.2.2.2.len hk' hz, ← HM.out.2.2.1] at this
          exact this
        clear hXr e hz hk'
        go_wp2
        go_loopw [6] (fun i wr' => i = .int .i64 0 ∧ wr' = wr) (fun i _ => 0)
        case atStart => exact ⟨rfl, rfl⟩
        case round =>
          obtain ⟨rfl, rfl⟩ := hrel
          go_wp2
          go_roundw
          case rel => exact ⟨k + 1, by go_num, (by omega : k + 1 ≤ x.N), HS.out, HI.out.2.2⟩
          case measure => simp [intOf]; omega
      · rw [e] at d1
        have HC : Hid (Rdk wr r gs F x arm lf tn vs ∧ vs[k]? = some (.slice (some ⟨g, 0, none⟩) 512 512) ∧ Box wr g 5 (u8s (x.c k)) ∧ g ≠ w.heap.size) := ⟨hXr, e, hb, by
          have hs := HR.out.sec k hk'
          rcases hs with ⟨e', _⟩ | ⟨g', e', hb', _⟩
          · rw [e] at e'; cases e'
          · rw [e] at e'; cases e'
            have := hb'.lt
            omega⟩
        have hkM : k * 512 + 512 ≤ M := by have := HM.out.1; have := Nat.mul_le_mul_right 512 hk'; omega
        obtain ⟨K, hK⟩ : ∃ K, K = k * 512 := ⟨_, rfl⟩
        have HKK : Hid (K = k * 512 ∧ K + 512 ≤ M) := ⟨hK, by omega⟩
        have hKw : IntKind.i64.wrap ((k : Int) * 512) = (K : Int) := by rw [IntKind.wrap_i64]; omega
        have hK2 : (K : Int) + 512 ≤ (M : Int) := by omega
        clear hXr e hb hF hk' hkM hK
        go_wp2
        go_loopw [6] (fun i wr' => ∃ j : Nat, i = .int .i64 j ∧ Hid (j ≤ 512 ∧ Box wr' w.heap.size 5 (u8s (half X (K + j))) ∧ Kept No w wr')) (fun i _ => 512 - (intOf i).toNat)
        case atStart => exact ⟨0, rfl, by omega, by rw [HKK.out.1]; exact HI.out.2.1, HI.out.2.2⟩
        case round =>
          obtain ⟨j, rfl, HJ⟩ := hrel
          by_cases hj : (j : Int) < 512
          · have hj' : j < 512 := by omega
            have hlt : K + j < X.length := by have := HKK.out.2; have := HM.out.2.1; omega
            have e0 := HJ.out.2.1.cell (K + j)
            rw [half_at hlt] at e0
            have f0 := HJ.out.2.1.frozen (K + j)
            have hgk : (wr.cell? ⟨g, j, none⟩) = some (.int .u8 (X[K + j]?.getD 0)) := by
              have hbw : Box w g 5 (u8s (x.c k)) := by
                rcases HR.out.sec k HK.out with ⟨e', _⟩ | ⟨g', e', hb', _⟩
                · rw [HC.out.2.1] at e'; cases e'
                · rw [HC.out.2.1] at e'; cases e'; exact hb'
              have := (hbw.kept HJ.out.2.2 (fun e => e)).cell j
              rw [this, HM.out.2.2.1, HKK.out.1, flatN_get HM.out.2.2.2.len hj' x.N HK.out]
              unfold u8s
              rw [List.getElem?_toArray, List.getElem?_map, List.getElem?_eq_getElem (by rw [HM.out.2.2.2.len]; exact hj')]
              rfl
            have HS : Hid (Box (wr.setCell ⟨w.heap.size, K + j, none⟩ (.int .u8 (X[K + j]?.getD 0))) w.heap.size 5 (u8s (half X (K + j + 1)))) := by
              have := HJ.out.2.1.set (K + j) (.int .u8 (X[K + j]?.getD 0))
              rw [half_set hlt] at this
              exact this
            clear hlt hj'
            generalize X[K + j]?.getD 0 = z at hgk HS
            go_wp2
            go_roundw
            case rel => exact ⟨j + 1, by go_num, (by omega : j + 1 ≤ 512), HS.out, HJ.out.2.2.setCell (fun e => absurd e (by simp)) _⟩
            case measure => simp [intOf]; omega
          · have hj' : j = 512 := by have := HJ.out.1; omega
            have HS : Hid (Box wr w.heap.size 5 (u8s (half X ((k + 1) * 512)))) := by
              have := HJ.out.2.1
              rw [hj', HKK.out.1, show k * 512 + 512 = (k + 1) * 512 by omega] at this
              exact this
            go_wp2
            go_roundw
            case rel => exact ⟨k + 1, by go_num, (by omega : k + 1 ≤ x.N), HS.out, HJ.out.2.2⟩
            case measure => simp [intOf]; omega
    · have hk' : k = x.N := by have := HI.out.1; omega
      have HE : Hid (Box wr w.heap.size 5 (u8s X)) := by
        have := HI.out.2.1
        rw [hk', ← HM.out.1, ← HM.out.2.1, half_all] at this
        exact this
      clear hXr
      go_wp2
      go_ret
      exact ⟨rfl, HE.out, HI.out.2.2⟩

end Go.Proofs.Ytppkjebiiheljaa
