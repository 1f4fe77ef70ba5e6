import Derived.Test.YtnhjpghkmbgeaaaRr
namespace Go.Proofs.Ytnhjpghkmbgeaaa
open Go.RowKit
set_option linter.unusedVariables false

theorem byt_drop (bs : List Int) (at_ k : Nat) : byt (bs.drop at_) k = (bs[at_ + k]?.getD 0).toNat := by
  unfold byt; rw [List.getElem?_drop]

theorem and127b (B : Nat) (h : B ≤ 255) : bits .and .u8 (B : Int) 127 = (B : Int) % 128 :=
  bits_mask .u8 8 (by decide) (fun n a b => by simp [IntKind.wrap, IntKind.bits, IntKind.signed]; omega) 7 (by decide) (B : Int) (by omega) (by omega)

theorem ret_ui {x x' y y' : Int} (h : x = x') (h2 : y = y') : Ending.returned (.tuple #[.int .u64 x, .int .i64 y]) = .returned (.tuple #[.int .u64 x', .int .i64 y']) := by rw [h, h2]

/-- What the reference's varint leaves. -/
def RvPost (w : World) (g : Nat) (ba : Option Addr) (bc : Nat) (bs : List Int) (at_ : Nat) (V : Except Int (Nat × Nat)) (e : Ending) (w' : World) : Prop :=
  match V with
  | .error c => e = .returned (.tuple #[.int .u64 0, .int .i64 0]) ∧ Rr w' g ba bc bs at_ c (at_ : Int) ∧ Kept (Only g) w w'
  | .ok (u, k) => e = .returned (.tuple #[.int .u64 (u : Int), .int .i64 (k : Int)]) ∧ ∃ n, w' = w.drewN n

set_option maxRecDepth 100000 in
set_option maxHeartbeats 2000000 in
theorem refvar_any (g : Nat) (ba : Option Addr) (bc : Nat) (bs : List Int) (at_ : Nat) (e p : Int) (s : Bool) (w : World) (h : Rr w g ba bc bs at_ e p) :
    Calls Try.prog 55 #[.pointer (some ⟨g, 0, none⟩), .bool s] w (RvPost w g ba bc bs at_ (rv (bs.drop at_) s)) := by
  have HR : Hid (Rr w g ba bc bs at_ e p) := h
  have hbd := h.sl.bd
  have hle := h.le
  have c0 : w.cell? ⟨g, 0, none⟩ = some (.slice ba bs.length bc) := by rw [cell_of_row w g 0 _ 62 (0, 0) h.cell]; rfl
  have c1 : w.cell? ⟨g, 1, none⟩ = some (.int .i64 (at_ : Int)) := by rw [cell_of_row w g 1 _ 62 (0, 0) h.cell]; rfl
  obtain ⟨V, hV⟩ : ∃ V, V = rv (bs.drop at_) s := ⟨_, rfl⟩
  rw [← hV]
  have HV : Hid (V = rvGo (bs.drop at_) s 0 10) := hV
  clear h hV
  go_enter Try.func55, Try.ntmps55
  go_wp2
  go_loopw [6, 7] (fun u i wr => ∃ (k : Nat) (U : Int), k ≤ 10 ∧ i = .int .i64 (k : Int) ∧ u = .int .u64 U ∧ Hid (k ≤ 9 → U = (acc (bs.drop at_) k : Int)) ∧ Hid (V = rvGo (bs.drop at_) s k (10 - k)) ∧ ∃ n, wr = w.drewN n) (fun _ i _ => 10 - (intOf i).toNat)
  case atStart => exact ⟨0, 0, by omega, rfl, rfl, fun _ => rfl, HV, 0, rfl⟩
  case round =>
    obtain ⟨k, U, hk, rfl, rfl, HU, HK, n, rfl⟩ := hrel
    by_cases hlt : k < 10
    · have i1 : (k : Int) < 10 := by omega
      by_cases hcut : at_ + k < bs.length
      · have i2 : ¬ (bs.length : Int) ≤ (at_ : Int) + (k : Int) := by omega
        obtain ⟨b, off, rfl, hcl⟩ := HR.out.sl.bytes (at_ + k) hcut
        obtain ⟨B, hB⟩ : ∃ B : Nat, bs[at_ + k]?.getD 0 = (B : Int) := ⟨(bs[at_ + k]?.getD 0).toNat, by have := HR.out.sl.u8 (at_ + k); omega⟩
        have hB8 : B ≤ 255 := by have := HR.out.sl.u8 (at_ + k); omega
        rw [hB] at hcl
        have HB : Hid (byt (bs.drop at_) k = B) := by unfold Hid; rw [byt_drop, hB]; simp
        clear hB
        have m1 := and127b B hB8
        by_cases h9 : k = 9
        · have g9 : ((k : Int) == 9) = true := by simp; omega
          have g0 : (0 : Int) < (k : Int) := by omega
          by_cases h1 : 1 < B
          · have g1 : (1 : Int) < (B : Int) := by omega
            have HE : Hid (V = .error 11) := by
              show V = _
              rw [HK.out, rv_step _ _ k hlt, if_neg (by rw [List.length_drop]; omega), HB.out, if_pos (by first | omega | (simp; omega))]
            clear HV HK HU hB8
            try clear h9
            try clear h0
            try clear h1
            try clear hk0
            try clear h128
            go_wp2
            go_quiet (fail)
            go_wp2
            go_quiet (fail)
            go_wp2_with fail
            refine (fail_any g _ bc bs at_ e p 11 at_ _ (HR.out.no ((Kept.refl No w).drewN _))).mono ?_
            rintro e' w1 ⟨rfl, hr, hk1⟩
            have HF : Hid (Rr w1 g (some ⟨b, off, none⟩) bc bs at_ 11 (at_ : Int) ∧ Kept (Only g) w w1) := ⟨hr, ((Kept.refl No w).drewN _).of_no.then hk1⟩
            clear hr hk1
            go_wp2
            go_ret2
            show RvPost _ _ _ _ _ _ _ _ _
            rw [HE.out]
            exact ⟨rfl, HF.out⟩
          · have g1 : ¬ (1 : Int) < (B : Int) := by omega
            cases s with
            | false =>
              have HE : Hid (V = .error 11) := by
                show V = _
                rw [HK.out, rv_step _ _ k hlt, if_neg (by rw [List.length_drop]; omega), HB.out, if_pos (by first | omega | (simp; omega))]
              clear HV HK HU hB8
              try clear h9
              try clear h0
              try clear h1
              try clear hk0
              try clear h128
              go_wp2
              go_quiet (fail)
              go_wp2
              go_quiet (fail)
              go_wp2_with fail
              refine (fail_any g _ bc bs at_ e p 11 at_ _ (HR.out.no ((Kept.refl No w).drewN _))).mono ?_
              rintro e' w1 ⟨rfl, hr, hk1⟩
              have HF : Hid (Rr w1 g (some ⟨b, off, none⟩) bc bs at_ 11 (at_ : Int) ∧ Kept (Only g) w w1) := ⟨hr, ((Kept.refl No w).drewN _).of_no.then hk1⟩
              clear hr hk1
              go_wp2
              go_ret2
              show RvPost _ _ _ _ _ _ _ _ _
              rw [HE.out]
              exact ⟨rfl, HF.out⟩
            | true =>
              by_cases h0 : B = 0
              · have gb : ((B : Int) == 0) = true := by simp; omega
                have HE : Hid (V = .error 11) := by
                  show V = _
                  rw [HK.out, rv_step _ _ k hlt, if_neg (by rw [List.length_drop]; omega), HB.out, if_pos (by first | omega | (simp; omega))]
                clear HV HK HU hB8
                try clear h9
                try clear h0
                try clear h1
                try clear hk0
                try clear h128
                go_wp2
                go_quiet (fail)
                go_wp2
                go_quiet (fail)
                go_wp2_with fail
                refine (fail_any g _ bc bs at_ e p 11 at_ _ (HR.out.no ((Kept.refl No w).drewN _))).mono ?_
                rintro e' w1 ⟨rfl, hr, hk1⟩
                have HF : Hid (Rr w1 g (some ⟨b, off, none⟩) bc bs at_ 11 (at_ : Int) ∧ Kept (Only g) w w1) := ⟨hr, ((Kept.refl No w).drewN _).of_no.then hk1⟩
                clear hr hk1
                go_wp2
                go_ret2
                show RvPost _ _ _ _ _ _ _ _ _
                rw [HE.out]
                exact ⟨rfl, HF.out⟩
              · have gb : ((B : Int) == 0) = false := by simp; omega
                have j1 : (B : Int) < 128 := by omega
                have HE : Hid (V = .ok (acc (bs.drop at_) (k + 1), k + 1)) := by
                  show V = _
                  rw [HK.out, rv_step _ _ k hlt, if_neg (by rw [List.length_drop]; omega), HB.out, if_neg (by first | omega | (simp; omega)), if_pos (by omega)]
                have HS : Hid (bits .or .u64 U (IntKind.u64.wrap ((B : Int) % 128 * 2 ^ (7 * k))) = (acc (bs.drop at_) (k + 1) : Int)) := by
                  rw [Hid, HU.out (by omega)]; exact or_step _ k B HB.out (by omega)
                clear HV HK HU hB8
                try clear h9
                try clear h0
                try clear h1
                try clear hk0
                try clear h128
                go_wp2
                go_quiet (fail)
                go_wp2
                go_quiet (fail)
                go_wp2
                go_ret2
                show RvPost _ _ _ _ _ _ _ _ _
                rw [HE.out]
                exact ⟨ret_ui HS.out (by omega), _, rfl⟩
        · have g9 : ((k : Int) == 9) = false := by simp; omega
          by_cases h0 : B = 0
          · have gb : ((B : Int) == 0) = true := by simp; omega
            by_cases hk0 : 0 < k
            · have g0 : (0 : Int) < (k : Int) := by omega
              have HE : Hid (V = .error 11) := by
                show V = _
                rw [HK.out, rv_step _ _ k hlt, if_neg (by rw [List.length_drop]; omega), HB.out, if_pos (by first | omega | (simp; omega))]
              clear HV HK HU hB8
              try clear h9
              try clear h0
              try clear h1
              try clear hk0
              try clear h128
              go_wp2
              go_quiet (fail)
              go_wp2
              go_quiet (fail)
              go_wp2_with fail
              refine (fail_any g _ bc bs at_ e p 11 at_ _ (HR.out.no ((Kept.refl No w).drewN _))).mono ?_
              rintro e' w1 ⟨rfl, hr, hk1⟩
              have HF : Hid (Rr w1 g (some ⟨b, off, none⟩) bc bs at_ 11 (at_ : Int) ∧ Kept (Only g) w w1) := ⟨hr, ((Kept.refl No w).drewN _).of_no.then hk1⟩
              clear hr hk1
              go_wp2
              go_ret2
              show RvPost _ _ _ _ _ _ _ _ _
              rw [HE.out]
              exact ⟨rfl, HF.out⟩
            · have g0 : ¬ (0 : Int) < (k : Int) := by omega
              have j1 : (B : Int) < 128 := by omega
              have HE : Hid (V = .ok (acc (bs.drop at_) (k + 1), k + 1)) := by
                show V = _
                rw [HK.out, rv_step _ _ k hlt, if_neg (by rw [List.length_drop]; omega), HB.out, if_neg (by first | omega | (simp; omega)), if_pos (by omega)]
              have HS : Hid (bits .or .u64 U (IntKind.u64.wrap ((B : Int) % 128 * 2 ^ (7 * k))) = (acc (bs.drop at_) (k + 1) : Int)) := by
                rw [Hid, HU.out (by omega)]; exact or_step _ k B HB.out (by omega)
              clear HV HK HU hB8
              try clear h9
              try clear h0
              try clear h1
              try clear hk0
              try clear h128
              go_wp2
              go_quiet (fail)
              go_wp2
              go_quiet (fail)
              go_wp2
              go_ret2
              show RvPost _ _ _ _ _ _ _ _ _
              rw [HE.out]
              exact ⟨ret_ui HS.out (by omega), _, rfl⟩
          · have gb : ((B : Int) == 0) = false := by simp; omega
            by_cases h128 : B < 128
            · have j1 : (B : Int) < 128 := by omega
              have HE : Hid (V = .ok (acc (bs.drop at_) (k + 1), k + 1)) := by
                show V = _
                rw [HK.out, rv_step _ _ k hlt, if_neg (by rw [List.length_drop]; omega), HB.out, if_neg (by first | omega | (simp; omega)), if_pos (by omega)]
              have HS : Hid (bits .or .u64 U (IntKind.u64.wrap ((B : Int) % 128 * 2 ^ (7 * k))) = (acc (bs.drop at_) (k + 1) : Int)) := by
                rw [Hid, HU.out (by omega)]; exact or_step _ k B HB.out (by omega)
              clear HV HK HU hB8
              try clear h9
              try clear h0
              try clear h1
              try clear hk0
              try clear h128
              go_wp2
              go_quiet (fail)
              go_wp2
              go_quiet (fail)
              go_wp2
              go_ret2
              show RvPost _ _ _ _ _ _ _ _ _
              rw [HE.out]
              exact ⟨ret_ui HS.out (by omega), _, rfl⟩
            · have j1 : ¬ (B : Int) < 128 := by omega
              have HE : Hid (V = rvGo (bs.drop at_) s (k + 1) (10 - (k + 1))) := by
                show V = _
                rw [HK.out, rv_step _ _ k hlt, if_neg (by rw [List.length_drop]; omega), HB.out, if_neg (by first | omega | (simp; omega)), if_neg (by omega)]
              have HS : Hid (bits .or .u64 U (IntKind.u64.wrap ((B : Int) % 128 * 2 ^ (7 * k))) = (acc (bs.drop at_) (k + 1) : Int)) := by
                rw [Hid, HU.out (by omega)]; exact or_step _ k B HB.out (by omega)
              clear HV HK HU h9 h0 h128 hB8
              go_wp2
              go_quiet (fail)
              go_wp2
              go_quiet (fail)
              go_wp2
              go_roundw
              case rel => exact ⟨k + 1, _, by omega, by go_num, rfl, fun _ => HS.out, HE, _, rfl⟩
              case measure => simp [intOf]; omega
      · have i2 : (bs.length : Int) ≤ (at_ : Int) + (k : Int) := by omega
        have HE : Hid (V = .error 10) := by
          show V = _
          rw [HK.out, rv_step _ _ k hlt, if_pos (by rw [List.length_drop]; omega)]
        clear HV HK HU
        go_wp2
        go_quiet (fail)
        go_wp2_with fail
        refine (fail_any g ba bc bs at_ e p 10 at_ _ (HR.out.no ((Kept.refl No w).drewN _))).mono ?_
        rintro e' w1 ⟨rfl, hr, hk1⟩
        have HF : Hid (Rr w1 g ba bc bs at_ 10 (at_ : Int) ∧ Kept (Only g) w w1) := ⟨hr, ((Kept.refl No w).drewN _).of_no.then hk1⟩
        clear hr hk1
        go_wp2
        go_ret2
        show RvPost _ _ _ _ _ _ _ _ _
        rw [HE.out]
        exact ⟨rfl, HF.out⟩
    · obtain rfl : k = 10 := by omega
      have HE : Hid (V = .error 11) := HK.out
      clear HV HK HU
      go_wp2_with fail
      refine (fail_any g ba bc bs at_ e p 11 at_ _ (HR.out.no ((Kept.refl No w).drewN _))).mono ?_
      rintro e' w1 ⟨rfl, hr, hk1⟩
      have HF : Hid (Rr w1 g ba bc bs at_ 11 (at_ : Int) ∧ Kept (Only g) w w1) := ⟨hr, ((Kept.refl No w).drewN _).of_no.then hk1⟩
      clear hr hk1
      go_wp2
      go_ret2
      show RvPost _ _ _ _ _ _ _ _ _
      rw [HE.out]
      exact ⟨rfl, HF.out⟩

end Go.Proofs.Ytnhjpghkmbgeaaa
