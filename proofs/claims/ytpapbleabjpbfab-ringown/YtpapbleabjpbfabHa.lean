import Derived.Test.YtpapbleabjpbfabE
namespace Go.Proofs.Ytpapbleabjpbfab
open Go.RowKit
set_option linter.unusedVariables false

/-- The hash behind one byte more. -/
def fnvS (h b : Int) : Int := bits .xor .u32 h b * 16777619 % 4294967296
def fnv (zs : List Int) : Int := zs.foldl fnvS 2166136261

/-- Each number is a byte. -/
def U8 (zs : List Int) : Prop := ∀ i : Nat, 0 ≤ zs[i]?.getD 0 ∧ zs[i]?.getD 0 ≤ 255

theorem fnvS_bd (h b : Int) : 0 ≤ fnvS h b ∧ fnvS h b ≤ 4294967295 := by unfold fnvS; omega

theorem fnv_bd (zs : List Int) : 0 ≤ fnv zs ∧ fnv zs ≤ 4294967295 := by
  unfold fnv
  suffices h : ∀ (zs : List Int) (s : Int), 0 ≤ s → s ≤ 4294967295 → 0 ≤ zs.foldl fnvS s ∧ zs.foldl fnvS s ≤ 4294967295 from h zs _ (by omega) (by omega)
  intro zs
  induction zs with
  | nil => intro s a b; exact ⟨a, b⟩
  | cons z r ih => intro s _ _; exact ih _ (fnvS_bd s z).1 (fnvS_bd s z).2

theorem fnv_snoc (zs : List Int) (k : Nat) (h : k < zs.length) : fnv (zs.take (k + 1)) = fnvS (fnv (zs.take k)) (zs[k]?.getD 0) := by
  rw [List.take_succ_eq_append_getElem h, fnv, List.foldl_append]
  simp [List.getElem?_eq_getElem h, fnv]

set_option maxRecDepth 100000 in
set_option maxHeartbeats 1000000 in
theorem hashB_any (a : Option Addr) (cap : Nat) (zs : List Int) (n : Nat) (hn : n = zs.length) (w : World) (hm : n ≤ 140737488355328) (hb : Nums .u8 w a zs) (h8 : U8 zs) :
    Calls Try.prog 39 #[.slice a n cap] w fun e w' => e = .returned (.int .i64 (fnv zs)) ∧ w' = w := by
  subst hn
  have HB : Hid (Nums .u8 w a zs) := hb
  have H8 : Hid (U8 zs) := h8
  clear hb h8
  go_enter Try.func39, Try.ntmps39
  go_wp2
  go_loop [3, 7] (fun s i => ∃ k : Nat, k ≤ zs.length ∧ i = .int .i64 k ∧ s = .int .u32 (fnv (zs.take k))) (fun _ i => zs.length - (intOf i).toNat)
  case atStart => exact ⟨0, Nat.zero_le _, rfl, rfl⟩
  case round =>
    obtain ⟨k, hk, rfl, rfl⟩ := hrel
    have hc := fnv_bd (zs.take k)
    by_cases hlt : k < zs.length
    · obtain ⟨b, off, rfl, hcell⟩ := HB.out k hlt
      have hz := H8.out k
      have HS : Hid (fnv (zs.take (k + 1)) = fnvS (fnv (zs.take k)) (zs[k]?.getD 0)) := fnv_snoc zs k hlt
      generalize zs[k]?.getD 0 = z at hcell hz HS
      generalize fnv (zs.take k) = h at hc HS
      go_wp2
      go_round
      case rel => exact ⟨k + 1, by omega, by go_num, by rw [HS.out]; simp [fnvS]⟩
      case measure => simp [intOf]; omega
    · go_wp2
      go_ret
      refine ⟨ret_int ?_, rfl⟩
      rw [List.take_of_length_le (by omega)]

end Go.Proofs.Ytpapbleabjpbfab
