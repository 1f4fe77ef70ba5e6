import Derived.Test.YtpapbleabjpbfabHa
import Derived.OwnWalk
namespace Go.Proofs.Ytpapbleabjpbfab
open Go.RowKit
set_option linter.unusedVariables false

def byteAt (n : Int) (i : Nat) : Int := IntKind.u64.wrap n / 2 ^ (8 * i) % 256
def eightN (n : Int) (j : Nat) : List Int := (List.range j).map (byteAt n)
def eightsOf (zs : List Int) : List Int := (zs.map (eightN · 8)).flatten

theorem eightN_len (n : Int) (j : Nat) : (eightN n j).length = j := by simp [eightN]
theorem eightN_succ (n : Int) (j : Nat) : eightN n (j + 1) = eightN n j ++ [byteAt n j] := by simp [eightN, List.range_succ]
theorem eightsOf_len (zs : List Int) : (eightsOf zs).length = 8 * zs.length := by
  unfold eightsOf
  induction zs with
  | nil => rfl
  | cons z r ih => simp only [List.map_cons, List.flatten_cons, List.length_append, ih, eightN_len, List.length_cons]; omega
theorem eightsOf_snoc (zs : List Int) (k : Nat) (h : k < zs.length) : eightsOf (zs.take (k + 1)) = eightsOf (zs.take k) ++ eightN (zs[k]?.getD 0) 8 := by
  unfold eightsOf
  rw [List.take_succ_eq_append_getElem h, List.map_append, List.flatten_append]
  simp [List.getElem?_eq_getElem h]

theorem cell_new1 (w : World) (v : Value) (t : TypeId) (j : Nat) (u : Value) (h : [v][j]? = some u) : (w.alloc (.cells #[v] t)).cell? ((⟨w.heap.size, 0, none⟩ : Addr).add j) = some u := by
  rw [addr_add, Nat.zero_add, (Box.new w t #[v]).cell]
  simpa using h

theorem kept_only {S : Nat → Prop} {w w1 w2 : World} {g : Nat} (h : Kept S w w1) (hg : w1.grownBy w2 (some g)) (h0 : w.heap.size ≤ g) : Kept S w w2 :=
  h.grown hg (fun k e hk => by cases e; omega)

theorem Try.info5 : (Try.prog.info? 5).map (fun i => (i.zero, i.size, i.bytes)) = some (some (.int .u8 0), 1, 1) := by kernel_rfl

set_option maxRecDepth 100000 in
set_option maxHeartbeats 1000000 in
theorem eights_any (a : Option Addr) (cap : Nat) (zs : List Int) (w : World) (hm : zs.length ≤ 1000) (hb : Nums .i64 w a zs) :
    Calls Try.prog 40 #[.slice a zs.length cap] w fun e w' => e = .returned (.slice (some ⟨w.heap.size, 0, none⟩) (8 * zs.length) (8 * zs.length)) ∧ Own 5 1 w' w.heap.size (some ⟨w.heap.size, 0, none⟩) (8 * zs.length) (8 * zs.length) ((eightsOf zs).map (Value.int .u8)) ∧ Kept No w w' := by
  have HB : Hid (Nums .i64 w a zs) := hb
  clear hb
  obtain ⟨i0, hi, hz0, hz1, hz2⟩ := info_parts Try.info5
  go_enter Try.func40, Try.ntmps40
  go_wp2_with (first
    | (at_make
       refine wpList_make_own _ rfl (.const (.int .i64 0)) (.tmp 9) 76 rfl w.heap.size 5 i0 (.int .u8 0) 1 Try.underlying76 hi hz0 hz1 .i64 .i64 _ (8 * zs.length) rfl rfl ?hc (by rw [hz2]; omega) (by unfold maxLen; omega) (Nat.le_refl _) ?_
       case hc => omega
       intro w1 hown hgrow
       have HO : Hid (Own 5 1 w1 w.heap.size (some ⟨w.heap.size, 0, none⟩) (8 * zs.length) 0 ([].map (Value.int .u8))) := hown
       have HK : Hid (Kept No w w1) := kept_grown hgrow
       clear hown hgrow))
  go_loopw [3, 13] (fun s i wr => ∃ k : Nat, k ≤ zs.length ∧ i = .int .i64 k ∧ s = .slice (some ⟨w.heap.size, 0, none⟩) (8 * k) (8 * zs.length) ∧ Hid (Own 5 1 wr w.heap.size (some ⟨w.heap.size, 0, none⟩) (8 * zs.length) (8 * k) ((eightsOf (zs.take k)).map (Value.int .u8))) ∧ Hid (Kept No w wr)) (fun _ i _ => zs.length - (intOf i).toNat)
  case atStart => exact ⟨0, Nat.zero_le _, rfl, rfl, HO, HK⟩
  case round =>
    obtain ⟨k, hk, rfl, rfl, HOk, HKk⟩ := hrel
    clear HO HK
    by_cases hlt : k < zs.length
    · obtain ⟨b, off, rfl, hcell⟩ := (HB.out.no HKk.out) k hlt
      have HS : Hid (eightsOf (zs.take (k + 1)) = eightsOf (zs.take k) ++ eightN (zs[k]?.getD 0) 8) := eightsOf_snoc zs k hlt
      generalize zs[k]?.getD 0 = z at hcell HS
      go_wp2
      go_loopw [3, 6] (fun s i wr => ∃ j : Nat, j ≤ 8 ∧ i = .int .i64 (8 * j : Nat) ∧ s = .slice (some ⟨w.heap.size, 0, none⟩) (8 * k + j) (8 * zs.length) ∧ Hid (Own 5 1 wr w.heap.size (some ⟨w.heap.size, 0, none⟩) (8 * zs.length) (8 * k + j) ((eightsOf (zs.take k) ++ eightN z j).map (Value.int .u8))) ∧ Hid (Kept No w wr)) (fun _ i _ => 64 - (intOf i).toNat)
      case atStart => exact ⟨0, Nat.zero_le _, rfl, rfl, by simpa [eightN] using HOk, HKk⟩
      case round =>
        obtain ⟨j, hj, rfl, rfl, HOj, HKj⟩ := hrel
        clear HOk HKk
        by_cases hjl : j < 8
        · have HOa : Hid (∀ o, Own 5 1 (wr.alloc o) w.heap.size (some ⟨w.heap.size, 0, none⟩) (8 * zs.length) (8 * k + j) ((eightsOf (zs.take k) ++ eightN z j).map (Value.int .u8))) := fun o => HOj.out.no ((Kept.refl No wr).alloc o)
          clear HOj
          go_wp2_with (first
            | (at_builtin
               refine wpList_append_fits _ rfl (.tmp 21) (.tmp 27) 76 rfl w.heap.size 5 i0 1 Try.underlying76 hi hz1 w.heap.size (8 * k + j) (8 * zs.length) _ rfl (HOa.out _) ⟨wr.heap.size, 0, none⟩ 1 1 [.int .u8 (byteAt z j)] rfl rfl (cell_new1 _ _ _) (by simp [Value.oneCell']) (by omega) ?_
               intro w2 hown2 hgrow2
               have HO2 : Hid (Own 5 1 w2 w.heap.size (some ⟨w.heap.size, 0, none⟩) (8 * zs.length) (8 * k + (j + 1)) ((eightsOf (zs.take k) ++ eightN z (j + 1)).map (Value.int .u8))) := (by
                 rw [eightN_succ, ← List.append_assoc, List.map_append]; exact hown2)
               have HK2 : Hid (Kept No w w2) := kept_only (HKj.out.alloc _) hgrow2 (Nat.le_refl _)
               clear hown2 hgrow2 HOa HKj)
            | fail)
          go_roundw
          case rel => exact ⟨j + 1, by omega, by go_num, rfl, HO2, HK2⟩
          case measure => simp [intOf]; omega
        · obtain rfl : j = 8 := by omega
          go_wp2
          go_roundw
          case rel =>
            refine ⟨k + 1, by omega, by go_num, by congr 1, ?_, HKj⟩
            rw [HS.out]; exact HOj.out
          case measure => simp [intOf]; omega
    · obtain rfl : k = zs.length := by omega
      go_wp2
      go_ret
      refine ⟨rfl, ?_, HKk.out⟩
      have := HOk.out
      rwa [List.take_length] at this

end Go.Proofs.Ytpapbleabjpbfab
