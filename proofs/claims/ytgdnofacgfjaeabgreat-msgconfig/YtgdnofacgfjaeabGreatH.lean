import Derived.Test.YtgdnofacgfjaeabGreatG
namespace Go.Proofs.YtgdnofacgfjaeabGreat
open Go.RowKit
set_option linter.unusedVariables false

def headOf (zs : List Int) : List Int := fourOf zs.length ++ fourOf (sumOf (fourOf zs.length))
def sealOf (zs : List Int) : List Int := headOf zs ++ zs ++ fourOf (sumOf (headOf zs ++ zs))
theorem headOf_len (zs : List Int) : (headOf zs).length = 8 := rfl
theorem sealOf_len (zs : List Int) : (sealOf zs).length = zs.length + 12 := by simp [sealOf, headOf_len, fourOf_len]; omega
theorem headOf_u8 (zs : List Int) : U8 (headOf zs) := (fourOf_u8 _).append (fourOf_u8 _)
theorem sealOf_u8 {zs : List Int} (h : U8 zs) : U8 (sealOf zs) := ((headOf_u8 _).append h).append (fourOf_u8 _)

theorem at_some {b off k : Nat} (h : At (some ⟨b, off, none⟩) k) : k = b := by obtain ⟨ad, e, rfl⟩ := h; cases e; rfl

/-- What the call itself has made since the world w. -/
theorem Kept.fresh {w w1 w2 : World} {S : Nat → Prop} (h : Kept No w w1) (k : Kept S w1 w2) (hS : ∀ i, S i → w.heap.size ≤ i) : Kept No w w2 :=
  h.trans k (fun _ e => e) (fun i hi e => absurd hi (by have := hS i e; omega))

theorem ret_slice {a : Option Addr} {n m c : Nat} (h : n = m) : Ending.returned (.slice a n c) = .returned (.slice a m c) := by rw [h]

set_option maxRecDepth 1000000 in
set_option maxHeartbeats 1000000 in
theorem seal_any (a : Option Addr) (m cap : Nat) (zs : List Int) (w : World) (hz : zs.length = m) (hm : m ≤ 131072) (hb : Bytes w a zs) (h8 : U8 zs) (hc : a = none → cap = 0) :
    Calls Tryz.prog 18 #[.slice a m cap] w fun e w' => ∃ a' c', e = .returned (.slice a' (m + 12) c') ∧ OwnS w' w.heap.size a' c' (sealOf zs) ∧ Kept No w w' := by
  have HB : Hid (Bytes w a zs) := hb
  have H8 : Hid (U8 zs) := h8
  have HC : Hid (a = none → cap = 0) := hc
  have HZ : Hid (zs.length = m) := hz
  clear hb h8 hc hz
  obtain ⟨i0, hi, hz0, hz1, hz2⟩ := info_parts Tryz.info5
  go_enter Tryz.func18, Tryz.ntmps18
  go_wp2_with (at_make; go_must (refine wpList_make_own _ rfl _ (.tmp 10) 30 rfl w.heap.size 5 i0 (.int .u8 0) 1 Tryz.underlying30 hi hz0 hz1 .i64 .i64 _ (m + 12) rfl rfl (by omega) (by rw [hz2]; omega) (by unfold maxLen; omega) (Nat.le_refl _) ?_; intro w1 hown hgrow; have HO1 : Hid (OwnS w1 w.heap.size (some ⟨w.heap.size, 0, none⟩) (m + 12) []) := hown; have HK1 : Hid (Kept No w w1) := kept_grown hgrow; clear hown hgrow))
  refine (putFour_any w.heap.size _ _ _ [] _ _ rfl HO1.out HK1.out.size (by omega) (by omega) (by simp)).mono ?_
  rintro e w2 ⟨a2, c2, rfl, hO2, hK2⟩
  have HO2 : Hid (OwnS w2 w.heap.size a2 c2 (fourOf m)) := hO2
  have HK2 : Hid (Kept No w w2) := HK1.out.fresh hK2 (fun i e => HO1.out.base e)
  clear hO2 hK2 HO1 HK1
  go_wp2_with fail
  refine (sumN_any _ _ _ (fourOf m) _ (by simp [fourOf_len]) (by omega) HO2.out.bytes (fourOf_u8 _)).mono ?_
  rintro e w' ⟨rfl, rfl⟩
  have hs := sumOf_bd (fourOf m)
  go_wp2_with fail
  refine (putFour_any w.heap.size _ _ _ (fourOf m) _ _ (by simp [fourOf_len]) HO2.out HK2.out.size (by omega) (by omega) (by omega)).mono ?_
  rintro e w3 ⟨a3, c3, rfl, hO3, hK3⟩
  have HO3 : Hid (OwnS w3 w.heap.size a3 c3 (headOf zs)) := by unfold headOf; rw [HZ.out]; exact hO3
  have HK3 : Hid (Kept No w w3) := HK2.out.fresh hK3 (fun i e => HO2.out.base e)
  clear hO3 hK3 HO2 HK2 hs
  go_wp2_with (at_builtin; go_must (refine wp_app _ Tryz.underlying30 Tryz.info5 rfl _ _ rfl w.heap.size _ _ _ (headOf zs) rfl (by simp [headOf_len]) HO3.out _ _ _ zs rfl HZ.out (HB.out.no HK3.out) HC.out (by have := HZ.out; rw [headOf_len]; omega) HK3.out.size ?_; intro a4 c4 w4 HO4 HK4' HN'; have HK4 : Hid (Kept No w w4) := HK3.out.fresh HK4'.out (fun i e => HO3.out.base e); clear HK4' HN' HO3 HK3))
  refine (sumN_any _ _ _ (headOf zs ++ zs) _ (by have := HZ.out; simp [headOf_len]; omega) (by omega) HO4.out.bytes ((headOf_u8 _).append H8.out)).mono ?_
  rintro e w' ⟨rfl, rfl⟩
  have hs := sumOf_bd (headOf zs ++ zs)
  go_wp2_with fail
  refine (putFour_any w.heap.size _ _ _ (headOf zs ++ zs) _ _ (by have := HZ.out; simp [headOf_len]; omega) HO4.out HK4.out.size (by omega) (by omega) (by omega)).mono ?_
  rintro e w5 ⟨a5, c5, rfl, hO5, hK5⟩
  have HO5 : Hid (OwnS w5 w.heap.size a5 c5 (sealOf zs)) := hO5
  have HK5 : Hid (Kept No w w5) := HK4.out.fresh hK5 (fun i e => HO4.out.base e)
  clear hO5 hK5 HO4 HK4 hs
  go_wp2
  go_ret
  exact ⟨a5, c5, ret_slice (by omega), HO5.out, HK5.out⟩

theorem seal_long (a : Option Addr) (m cap : Nat) (w : World) (hm : 131072 < m) (h2 : m ≤ 140737488355328) :
    Calls Tryz.prog 18 #[.slice a m cap] w fun e w' => e = .returned (.slice none 0 0) ∧ w' = w := by
  go_enter Tryz.func18, Tryz.ntmps18
  go_wp2
  go_ret
  exact ⟨rfl, rfl⟩


set_option maxRecDepth 1000000 in
set_option maxHeartbeats 1000000 in
theorem rseal_any (a : Option Addr) (m cap : Nat) (zs : List Int) (w : World) (hz : zs.length = m) (hm : m ≤ 131072) (hb : Bytes w a zs) (h8 : U8 zs) (hc : a = none → cap = 0) :
    Calls Tryz.prog 218 #[.slice a m cap] w fun e w' => ∃ a' c', e = .returned (.slice a' (m + 12) c') ∧ OwnS w' w.heap.size a' c' (sealOf zs) ∧ Kept No w w' := by
  have HB : Hid (Bytes w a zs) := hb
  have H8 : Hid (U8 zs) := h8
  have HC : Hid (a = none → cap = 0) := hc
  have HZ : Hid (zs.length = m) := hz
  clear hb h8 hc hz
  go_enter Tryz.func218, Tryz.ntmps218
  go_wp2_with fail
  refine (Four_any _ _ (by omega) (by omega)).mono ?_
  rintro e w2 ⟨rfl, hO2, hK2⟩
  have HO2 : Hid (OwnS w2 w.heap.size (some ⟨w.heap.size, 0, none⟩) 4 (fourOf m)) := hO2
  have HK2 : Hid (Kept No w w2) := hK2
  clear hO2 hK2
  go_wp2_with fail
  refine (rsumN_any _ _ _ (fourOf m) _ (by simp [fourOf_len]) (by omega) HO2.out.bytes (fourOf_u8 _)).mono ?_
  rintro e w' ⟨rfl, rfl⟩
  have hs := sumOf_bd (fourOf m)
  go_wp2_with fail
  refine (Four_any _ _ (by omega) (by omega)).mono ?_
  rintro e w3 ⟨rfl, hO3, hK3⟩
  have HF3 : Hid (Bytes w3 (some ⟨w'.heap.size, 0, none⟩) (fourOf (sumOf (fourOf m)))) := hO3.bytes
  have HO3 : Hid (OwnS w3 w.heap.size (some ⟨w.heap.size, 0, none⟩) 4 (fourOf m)) := HO2.out.no hK3
  have HK3 : Hid (Kept No w w3) := HK2.out.then hK3
  clear hO3 hK3 HO2 HK2 hs
  go_wp2_with (first
    | (at_builtin; refine wp_app _ Tryz.underlying30 Tryz.info5 rfl (.tmp 13) (.tmp 15) rfl w.heap.size _ _ _ (fourOf m) rfl rfl HO3.out _ _ _ (fourOf (sumOf (fourOf m))) rfl rfl HF3.out (fun e => by cases e) (by simp [fourOf_len]) HK3.out.size ?_; intro a4 c4 w4 HO4' HK4' HN'; have HO4 : Hid (OwnS w4 w.heap.size a4 c4 (headOf zs)) := (by unfold headOf; rw [HZ.out]; exact HO4'.out); have HK4 : Hid (Kept No w w4) := HK3.out.fresh HK4'.out (fun i e => HO3.out.base e); clear HO4' HK4' HN' HO3 HK3 HF3)
    | (at_builtin; refine wp_app _ Tryz.underlying30 Tryz.info5 rfl (.tmp 17) (.tmp 18) rfl w.heap.size _ _ _ (headOf zs) rfl (by simp [headOf_len]) HO4.out _ _ _ zs rfl HZ.out (HB.out.no HK4.out) HC.out (by have := HZ.out; rw [headOf_len]; omega) HK4.out.size ?_; intro a5 c5 w5 HO5 HK5' HN'; have HK5 : Hid (Kept No w w5) := HK4.out.fresh HK5'.out (fun i e => HO4.out.base e); clear HK5' HN' HO4 HK4))
  refine (rsumN_any _ _ _ (headOf zs ++ zs) _ (by have := HZ.out; simp [headOf_len]; omega) (by omega) HO5.out.bytes ((headOf_u8 _).append H8.out)).mono ?_
  rintro e w' ⟨rfl, rfl⟩
  have hs := sumOf_bd (headOf zs ++ zs)
  go_wp2_with fail
  refine (Four_any _ _ (by omega) (by omega)).mono ?_
  rintro e w6 ⟨rfl, hO6, hK6⟩
  have HF6 : Hid (Bytes w6 (some ⟨w'.heap.size, 0, none⟩) (fourOf (sumOf (headOf zs ++ zs)))) := hO6.bytes
  have HO6 : Hid (OwnS w6 w.heap.size a5 c5 (headOf zs ++ zs)) := HO5.out.no hK6
  have HK6 : Hid (Kept No w w6) := HK5.out.then hK6
  clear hO6 hK6 HO5 HK5 hs
  go_wp2_with (at_builtin; go_must (refine wp_app _ Tryz.underlying30 Tryz.info5 rfl (.tmp 22) (.tmp 24) rfl w.heap.size _ _ _ (headOf zs ++ zs) rfl (by have := HZ.out; simp [headOf_len]; omega) HO6.out _ _ _ (fourOf (sumOf (headOf zs ++ zs))) rfl rfl HF6.out (fun e => by cases e) (by have := HZ.out; simp [fourOf_len, headOf_len]; omega) HK6.out.size ?_; intro a7 c7 w7 HO7 HK7' HN'; have HK7 : Hid (Kept No w w7) := HK6.out.fresh HK7'.out (fun i e => HO6.out.base e); clear HK7' HN' HO6 HK6 HF6))
  go_ret
  exact ⟨a7, c7, ret_slice (by omega), HO7.out, HK7.out⟩

theorem rseal_long (a : Option Addr) (m cap : Nat) (w : World) (hm : 131072 < m) (h2 : m ≤ 140737488355328) :
    Calls Tryz.prog 218 #[.slice a m cap] w fun e w' => e = .returned (.slice none 0 0) ∧ w' = w := by
  go_enter Tryz.func218, Tryz.ntmps218
  go_wp2
  go_ret
  exact ⟨rfl, rfl⟩

end Go.Proofs.YtgdnofacgfjaeabGreat
