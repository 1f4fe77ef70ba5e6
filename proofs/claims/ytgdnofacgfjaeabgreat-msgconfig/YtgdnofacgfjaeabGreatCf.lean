import Derived.Test.YtgdnofacgfjaeabGreatCe
namespace Go.Proofs.YtgdnofacgfjaeabGreat
open Go.RowKit
set_option linter.unusedVariables false

theorem vr_64 {zs : List Int} {u k : Nat} (h : vr zs = .ok (u, k)) : W64 u ∧ 1 ≤ k ∧ k ≤ 10 ∧ k ≤ zs.length := by
  suffices H : ∀ f i, i + f = 10 → vrGo zs i f = .ok (u, k) → W64 u ∧ 1 ≤ k ∧ k ≤ 10 ∧ k ≤ zs.length from H 10 0 rfl h
  intro f
  induction f with
  | zero => intro i _ h; simp [vrGo] at h
  | succ f ih =>
    intro i hi h
    rw [vrGo] at h
    split at h
    · cases h
    · split at h
      · split at h
        · cases h
        · rename_i h1 h2 h3
          simp only [Except.ok.injEq, Prod.mk.injEq] at h
          obtain ⟨rfl, rfl⟩ := h
          refine ⟨?_, by omega, by omega, by omega⟩
          unfold W64
          rw [acc]
          have ha := acc_lt zs i
          by_cases h9 : i = 9
          · subst h9
            have : byt zs 9 % 128 * 128 ^ 9 ≤ 1 * 128 ^ 9 := Nat.mul_le_mul (by omega) (Nat.le_refl _)
            omega
          · have h8 : 128 ^ i ≤ 128 ^ 8 := Nat.pow_le_pow_right (by decide) (by omega)
            have : byt zs i % 128 * 128 ^ i ≤ 127 * 128 ^ 8 := Nat.mul_le_mul (by omega) h8
            omega
      · exact ih (i + 1) (by omega) h

theorem nr_bd {zs : List Int} {u k : Nat} (h : nr zs = .ok (u, k)) : u ≤ 9223372036854775807 ∧ 1 ≤ k ∧ k ≤ 10 ∧ k ≤ zs.length ∧ vr zs = .ok (u, k) := by
  unfold nr at h
  split at h
  · cases h
  · rename_i u' k' hv
    split at h
    · cases h
    · simp only [Except.ok.injEq, Prod.mk.injEq] at h
      obtain ⟨rfl, rfl⟩ := h
      have := vr_64 hv
      exact ⟨by omega, this.2.1, this.2.2.1, this.2.2.2, hv⟩

theorem cr_bd {zs : List Int} {n k : Nat} (h : cr zs = .ok (n, k)) : 1 ≤ k ∧ k ≤ 10 ∧ k + n ≤ zs.length ∧ nr zs = .ok (n, k) := by
  unfold cr at h
  split at h
  · cases h
  · rename_i u' k' hv
    split at h
    · cases h
    · simp only [Except.ok.injEq, Prod.mk.injEq] at h
      obtain ⟨rfl, rfl⟩ := h
      have := nr_bd hv
      exact ⟨this.2.1, this.2.2.1, by omega, hv⟩

set_option maxRecDepth 1000000 in
set_option maxHeartbeats 1000000 in
theorem text1_any (A N g : Nat) (la : Option Addr) (lc : Nat) (zs : List Int) (at_ : Nat) (W : World) (h : Rd W g la lc zs at_) (hA : W.cell? ⟨A, 0, none⟩ = some (.pointer (some ⟨g, 0, none⟩))) (hN : W.heap[N]? = some (.cells #[.string ByteArray.empty] 9 (0, 0))) (hne : N ≠ g) :
    Calls Tryz.prog 139 #[.pointer (some ⟨A, 0, none⟩), .pointer (some ⟨N, 0, none⟩)] W (Throws g (fun W w' => ∃ n k, cr zs = .ok (n, k) ∧ Laid g N 9 la zs at_ (k + n) (.string (strOf ((zs.drop k).take n))) W w') (fun c => cr zs = .error c) W) := by
  have HR : Hid (Rd W g la lc zs at_) := h
  have HN : Hid (W.heap[N]? = some (.cells #[.string ByteArray.empty] 9 (0, 0))) := hN
  clear h hN
  cases hv : cr zs with
  | error c =>
    go_enter Tryz.func139, Tryz.ntmps139
    go_wp2_with fail
    refine (counted_any g la lc zs at_ W HR.out).mono ?_
    rw [hv]
    rintro e w1 ⟨rfl, hr, hk⟩
    have HF : Hid (Rdr w1 g ∧ Kept (Only g) W w1) := ⟨hr, hk⟩
    clear hr hk hv
    go_wp2
    exact ⟨rfl, .inr ⟨c, rfl, rfl, HF.out⟩⟩
  | ok x =>
    obtain ⟨n, k⟩ := x
    go_enter Tryz.func139, Tryz.ntmps139
    go_wp2_with fail
    refine (counted_any g la lc zs at_ W HR.out).mono ?_
    rw [hv]
    rintro e w1 ⟨b, off, lc1, rfl, hs, b', off', lc', ha, hr, hk⟩
    have HN1 : Hid (w1.heap[N]? = some (.cells #[.string ByteArray.empty] 9 (0, 0))) := (hk.block N (Array.getElem?_eq_some_iff.1 HN.out).1 (fun e => hne e)).trans HN.out
    have cN : w1.cell? ⟨N, 0, none⟩ = some (.string ByteArray.empty) := by rw [cell_of_row w1 N 0 _ 9 (0, 0) HN1.out]; rfl
    have fN := frozen_of_row w1 N 0 _ 9 HN1.out
    have hcv := run_str (xc := lc1) hs.bytes hs.u8 hs.len
    obtain ⟨S, hS⟩ : ∃ S, S = strOf ((zs.drop k).take n) := ⟨_, rfl⟩
    rw [← hS] at hcv
    have HSe : Hid (S = strOf ((zs.drop k).take n)) := hS
    have HL : Hid _ := Rd.laid (v' := .string S) hr hk HN1.out hne (fun z e => by cases e)
    have HA : Hid (At la b') := ha
    clear hr hk hv ha hs hS
    go_wp2
    go_end0
    exact .inl ⟨rfl, n, k, rfl, by rw [← HSe.out]; exact ⟨HL.out.2.1, ⟨b', off', lc', HA.out, HL.out.1⟩, HL.out.2.2⟩⟩

set_option maxRecDepth 1000000 in
set_option maxHeartbeats 1000000 in
theorem bytes1_any (A N g : Nat) (la : Option Addr) (lc : Nat) (zs : List Int) (at_ : Nat) (W : World) (h : Rd W g la lc zs at_) (hA : W.cell? ⟨A, 0, none⟩ = some (.pointer (some ⟨g, 0, none⟩))) (hN : W.heap[N]? = some (.cells #[.slice none 0 0] 30 (0, 0))) (hne : N ≠ g) :
    Calls Tryz.prog 133 #[.pointer (some ⟨A, 0, none⟩), .pointer (some ⟨N, 0, none⟩)] W (Throws g (fun W w' => ∃ n k, cr zs = .ok (n, k) ∧ ∃ a' c', Laid g N 30 la zs at_ (k + n) (.slice a' n c') W w' ∧ OwnS w' W.heap.size a' c' ((zs.drop k).take n)) (fun c => cr zs = .error c) W) := by
  have HR : Hid (Rd W g la lc zs at_) := h
  have HN : Hid (W.heap[N]? = some (.cells #[.slice none 0 0] 30 (0, 0))) := hN
  clear h hN
  cases hv : cr zs with
  | error c =>
    go_enter Tryz.func133, Tryz.ntmps133
    go_wp2_with fail
    refine (counted_any g la lc zs at_ W HR.out).mono ?_
    rw [hv]
    rintro e w1 ⟨rfl, hr, hk⟩
    have HF : Hid (Rdr w1 g ∧ Kept (Only g) W w1) := ⟨hr, hk⟩
    clear hr hk hv
    go_wp2
    exact ⟨rfl, .inr ⟨c, rfl, rfl, HF.out⟩⟩
  | ok x =>
    obtain ⟨n, k⟩ := x
    have hn : n ≤ 140737488355328 := by have h1 := (cr_bd hv).2.2.1; have h2 := HR.out.bd; omega
    go_enter Tryz.func133, Tryz.ntmps133
    go_wp2_with fail
    refine (counted_any g la lc zs at_ W HR.out).mono ?_
    rw [hv]
    rintro e w1 ⟨b, off, lc1, rfl, hs, b', off', lc', ha, hr, hk⟩
    have HS : Hid (Sl w1 (some ⟨b, off, none⟩) n lc1 ((zs.drop k).take n)) := hs
    have HR1 : Hid (Rd w1 g (some ⟨b', off', none⟩) lc' (zs.drop (k + n)) (at_ + (k + n))) := hr
    have HK1 : Hid (Kept (Only g) W w1) := hk
    have HA : Hid (At la b') := ha
    clear hr hk hv ha hs
    go_wp2_with fail
    refine (clone_any _ _ _ ((zs.drop k).take n) w1 HS.out.len HS.out.bytes (fun e => by cases e) hn).mono ?_
    rintro e w2 ⟨a2, c2, rfl, hO2, hK2, -⟩
    have HN2 : Hid (w2.heap[N]? = some (.cells #[.slice none 0 0] 30 (0, 0))) := (hK2.block N (by have h1 := (Array.getElem?_eq_some_iff.1 HN.out).1; have h2 := HK1.out.size; omega) (fun e => e)).trans ((HK1.out.block N (Array.getElem?_eq_some_iff.1 HN.out).1 (fun e => hne e)).trans HN.out)
    have cN : w2.cell? ⟨N, 0, none⟩ = some (.slice none 0 0) := by rw [cell_of_row w2 N 0 _ 30 (0, 0) HN2.out]; rfl
    have fN := frozen_of_row w2 N 0 _ 30 HN2.out
    have HL : Hid _ := Rd.laid (v' := .slice a2 n c2) (HR1.out.no hK2) (HK1.out.then hK2.of_no) HN2.out hne (fun z e => by cases e)
    have HO : Hid (OwnS (w2.setCell ⟨N, 0, none⟩ (.slice a2 n c2)) W.heap.size a2 c2 ((zs.drop k).take n)) :=
      (hO2.kept ((Kept.refl (Only N) w2).setCell (p := ⟨N, 0, none⟩) (fun _ => (rfl : N = N)) _) (fun i hi e => by have e' : i = N := e; have h1 := hO2.base hi; have h2 := (Array.getElem?_eq_some_iff.1 HN.out).1; have h3 := HK1.out.size; omega)).lower HK1.out.size
    clear hO2 hK2
    go_wp2
    go_end0
    exact .inl ⟨rfl, n, k, rfl, a2, c2, ⟨HL.out.2.1, ⟨b', off', lc', HA.out, HL.out.1⟩, HL.out.2.2⟩, HO.out⟩

set_option maxRecDepth 1000000 in
set_option maxHeartbeats 1000000 in
theorem end1_any (A g : Nat) (la : Option Addr) (lc : Nat) (zs : List Int) (at_ : Nat) (W : World) (h : Rd W g la lc zs at_) (hA : W.cell? ⟨A, 0, none⟩ = some (.pointer (some ⟨g, 0, none⟩))) :
    Calls Tryz.prog 174 #[.pointer (some ⟨A, 0, none⟩)] W (Throws g (fun W w' => zs = [] ∧ w' = W) (fun c => c = 11 ∧ zs ≠ []) W) := by
  have HR : Hid (Rd W g la lc zs at_) := h
  clear h
  by_cases h0 : zs = []
  · have HZ : Hid (zs = []) := h0
    have hd : decide (0 < zs.length) = false := by simp [h0]
    clear h0
    go_enter Tryz.func174, Tryz.ntmps174
    go_wp2_with fail
    refine (More_ok g la lc zs at_ W HR.out).mono ?_
    rw [hd]
    rintro e w1 ⟨rfl, rfl⟩
    go_wp2
    go_end0
    exact .inl ⟨rfl, HZ.out, rfl⟩
  · have HZ : Hid (zs ≠ []) := h0
    have hd : decide (0 < zs.length) = true := by simp; exact List.length_pos_iff.2 h0
    clear h0
    go_enter Tryz.func174, Tryz.ntmps174
    go_wp2_with fail
    refine (More_ok g la lc zs at_ W HR.out).mono ?_
    rw [hd]
    rintro e w1 ⟨rfl, rfl⟩
    go_wp2
    exact ⟨rfl, .inr ⟨11, rfl, ⟨rfl, HZ.out⟩, HR.out.rdr, Kept.refl _ _⟩⟩

theorem run60 (caps : Array Value) (W : World) : (callFunc 133 caps).run Tryz.prog W = .ok (.enter 133 caps) W := by kernel_rfl
theorem run62 (caps : Array Value) (W : World) : (callFunc 139 caps).run Tryz.prog W = .ok (.enter 139 caps) W := by kernel_rfl
theorem run48 (caps : Array Value) (W : World) : (callFunc 174 caps).run Tryz.prog W = .ok (.enter 174 caps) W := by kernel_rfl

end Go.Proofs.YtgdnofacgfjaeabGreat
