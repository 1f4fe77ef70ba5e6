import Derived.Test.YtppkjebiiheljaaLn
namespace Go.Proofs.Ytppkjebiiheljaa
open Go.RowKit
set_option linter.unusedVariables false
set_option linter.unusedSimpArgs false

/-- A sector of these bytes, the rest one byte. -/
def fullS (data : List Int) (r : Int) : List Int := data.take 512 ++ List.replicate (512 - data.length) r
theorem fullS_len (data : List Int) (r : Int) : (fullS data r).length = 512 := by
  unfold fullS
  rw [List.length_append, List.length_take, List.length_replicate]
  omega
theorem fullS_u8 {data : List Int} {r : Int} (h : U8 data) (hr : 0 ≤ r ∧ r ≤ 255) : U8 (fullS data r) := (h.take _).append (U8.rep hr)

/-- How far the first loop is. -/
def fillS (k : Nat) (r : Int) : List Int := List.replicate k r ++ List.replicate (512 - k) 0
theorem fillS_len (k : Nat) (r : Int) (hk : k ≤ 512) : (fillS k r).length = 512 := by
  unfold fillS
  rw [List.length_append, List.length_replicate, List.length_replicate]
  omega
theorem fillS_0 (r : Int) : fillS 0 r = zs := by unfold fillS zs; rfl
theorem fillS_512 (r : Int) : fillS 512 r = List.replicate 512 r := by unfold fillS; rw [Nat.sub_self, List.replicate_zero, List.append_nil]
theorem fillS_set (k : Nat) (r : Int) (hk : k < 512) : (u8s (fillS k r)).setIfInBounds k (.int .u8 r) = u8s (fillS (k + 1) r) := by
  unfold u8s fillS
  apply Array.ext_getElem?
  intro i
  rw [Array.getElem?_setIfInBounds]
  simp only [List.getElem?_toArray, List.size_toArray, List.getElem?_map, List.length_map, List.length_append, List.length_replicate]
  by_cases e : k = i
  · subst e
    rw [if_pos rfl, if_pos (by omega)]
    rw [List.getElem?_append_left (by rw [List.length_replicate]; omega), List.getElem?_replicate, if_pos (by omega)]
    rfl
  · rw [if_neg e]
    congr 1
    by_cases h1 : i < k
    · rw [List.getElem?_append_left (by rw [List.length_replicate]; omega), List.getElem?_append_left (by rw [List.length_replicate]; omega), List.getElem?_replicate, List.getElem?_replicate, if_pos h1, if_pos (by omega)]
    · rw [List.getElem?_append_right (by rw [List.length_replicate]; omega), List.getElem?_append_right (by rw [List.length_replicate]; omega), List.getElem?_replicate, List.getElem?_replicate, List.length_replicate, List.length_replicate]
      by_cases h2 : i < 512
      · rw [if_pos (by omega), if_pos (by omega)]
      · rw [if_neg (by omega), if_neg (by omega)]
theorem fillS_at (k : Nat) (r : Int) (hk : k < 512) : (u8s (fillS k r))[k]? = some (.int .u8 0) := by
  unfold u8s fillS
  simp only [List.getElem?_toArray, List.getElem?_map]
  rw [List.getElem?_append_right (by rw [List.length_replicate]; omega), List.getElem?_replicate, List.length_replicate, if_pos (by omega)]
  rfl
theorem full_splice (data : List Int) (r : Int) : (splice ((List.replicate 512 r).map (Value.int .u8)) 0 ((data.take 512).map (Value.int .u8))).toArray = u8s (fullS data r) := by
  unfold splice fullS u8s
  congr 1
  rw [List.take_zero, List.nil_append, List.map_append, Nat.zero_add, List.length_map, ← List.map_drop, List.drop_replicate]
  congr 3
  rw [List.length_take]
  omega

section
variable {ops : Array Oper} {rest : List Oper} {o : Oper} {a : Act} {w : World} {Q : Exit → Act → World → Prop}
theorem wp_make512 (hg : o.guard = none) (ho : o.op = .makeSlice 22 (.const (.int .i64 512)) (.const (.int .i64 512)))
    (h : ∀ w', Hid (Box w' w.heap.size 5 (u8s zs)) → Kept No w w' → wpList Try.prog ops Q rest (a.put o.dst (.slice (some ⟨w.heap.size, 0, none⟩) 512 512)) w') : wpList Try.prog ops Q (o :: rest) a w := by
  obtain ⟨i0, hi, hz0, hz1, hz2⟩ := info_parts Try.info5
  refine wpList_make_full _ hg (.const (.int .i64 512)) (.const (.int .i64 512)) 22 ho w.heap.size 5 i0 (.int .u8 0) 1 Try.und22 hi hz0 hz1 .i64 .i64 _ _ 512 rfl rfl rfl rfl (by rw [hz2]; decide) (by unfold maxLen; decide) (Nat.le_refl _) ?_
  intro w1 hown hgrow
  rw [made_u8] at hown
  exact h w1 (made_box hown) (kept_grown hgrow)
end

set_option maxRecDepth 100000 in
set_option maxHeartbeats 1000000 in
theorem full_any (a : Option Addr) (m cap : Nat) (data : List Int) (r : Int) (w : World) (hb : Nums .u8 w a data) (hl : data.length = m) (hm : m ≤ 4611686018427387904) :
    Calls Try.prog 28 #[.slice a m cap, .int .u8 r] w fun e w' => e = .returned (.slice (some ⟨w.heap.size, 0, none⟩) 512 512) ∧ Box w' w.heap.size 5 (u8s (fullS data r)) ∧ Kept No w w' := by
  have HB : Hid (Nums .u8 w a data) := hb
  have HL : Hid (data.length = m) := hl
  have HM : Hid (m ≤ 4611686018427387904) := hm
  clear hb hl hm
  go_enter Try.func28, Try.ntmps28
  go_wp2_with (refine wp_make512 rfl rfl ?_; intro w1 HB1 hk1; have HK1 : Hid (Kept No w w1) := hk1; clear hk1)
  rw [← fillS_0 r] at HB1
  go_loopw [6] (fun i wr => ∃ k : Nat, i = .int .i64 k ∧ Hid (k ≤ 512 ∧ Box wr w.heap.size 5 (u8s (fillS k r)) ∧ Kept No w wr)) (fun i _ => 512 - (intOf i).toNat)
  case atStart => exact ⟨0, rfl, by omega, HB1.out, HK1.out⟩
  case round =>
    obtain ⟨k, rfl, HR⟩ := hrel
    by_cases hk : (k : Int) < 512
    · have hk' : k < 512 := by omega
      have c0 := HR.out.2.1.cell k
      rw [fillS_at k r hk'] at c0
      have f0 := HR.out.2.1.frozen k
      clear hk'
      go_wp2
      go_roundw
      case rel =>
        have hk' : k < 512 := by omega
        refine ⟨k + 1, by go_num, (by omega : k + 1 ≤ 512), ?_, ?_⟩
        · have := HR.out.2.1.set k (.int .u8 r)
          rw [fillS_set k r hk'] at this
          exact this
        · exact HR.out.2.2.setCell (fun e => absurd e (by simp)) _
      case measure => simp [intOf]; omega
    · have hk' : k = 512 := by have := HR.out.1; omega
      subst hk'
      rw [fillS_512] at HR
      have hcl : Hid (((data.take 512).map (Value.int .u8)).length = Nat.min m 512) := by
        show ((data.take 512).map (Value.int .u8)).length = Nat.min m 512
        rw [List.length_map, List.length_take, HL.out]
        exact Nat.min_comm _ _
      have hcf : Hid (0 + ((data.take 512).map (Value.int .u8)).length ≤ ((List.replicate 512 r).map (Value.int .u8)).length) := by
        show 0 + ((data.take 512).map (Value.int .u8)).length ≤ ((List.replicate 512 r).map (Value.int .u8)).length
        rw [List.length_map, List.length_take, List.length_map, List.length_replicate]
        omega
      have hcp : Hid (0 < ((data.take 512).map (Value.int .u8)).length → (some ⟨w.heap.size, 0, none⟩ : Option Addr) = some ⟨w.heap.size, 0, none⟩ ∧ ∃ ad, a = some ad ∧ ∀ (j : Nat) v, ((data.take 512).map (Value.int .u8))[j]? = some v → wr.cell? (ad.add j) = some v) := by
        intro h0
        refine ⟨rfl, ?_⟩
        have hn : Nums .u8 wr a (data.take 512) := by
          have hb := HB.out.no HR.out.2.2
          intro i hi
          rw [List.length_take] at hi
          obtain ⟨b', off', e', hc⟩ := hb i (by omega)
          refine ⟨b', off', e', ?_⟩
          rw [List.getElem?_take, if_pos (by omega)]
          exact hc
        exact hn.src h0
      go_wp2_with (refine wp_copyO rfl (.tmp 18) (.tmp 19) 22 22 rfl 5 Try.und22 Try.size5 (some ⟨w.heap.size, 0, none⟩) a 512 512 m cap rfl rfl w.heap.size 0 ((List.replicate 512 r).map (Value.int .u8)) 5 HR.out.2.1 ((data.take 512).map (Value.int .u8)) hcl.out hcp.out hcf.out (num_one .u8 _) ?_
                   intro w3 HG3 hk3 hs3
                   rw [full_splice] at HG3
                   have HK3 : Hid (Kept (Only w.heap.size) _ w3) := hk3
                   clear hk3 hs3)
      all_goals go_ret
      exact ⟨rfl, HG3.out, HR.out.2.2.trans HK3.out (fun _ e => e) (fun i hi e => by have : i = w.heap.size := e; omega)⟩

end Go.Proofs.Ytppkjebiiheljaa
