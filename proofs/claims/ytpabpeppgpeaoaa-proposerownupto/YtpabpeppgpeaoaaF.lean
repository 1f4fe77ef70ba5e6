import Derived.Test.YtpabpeppgpeaoaaE
namespace Go.Proofs.Ytpabpeppgpeaoaa
open Go.RowKit Gt
set_option linter.unusedVariables false
set_option linter.unusedSimpArgs false

/-- A list of messages that was told: new memory. -/
def MsgsOut (w : World) (l : List Ms) (e : Ending) (w' : World) : Prop :=
  ∃ a cap, e = .returned (.slice a l.length cap) ∧ Own 47 30 w' w.heap.size a cap l.length (msL l) ∧ Kept No w w'
theorem Ms.oneL (m : Ms) : ∀ u ∈ m.cs, u.oneCell' = true := by
  have := m.one
  simp only [Ms.cells, List.all_toArray, List.all_eq_true] at this
  exact this
theorem take_map {zs : List Int} {k : Nat} (m : Ms) (h : k < zs.length) : (zs.take (k + 1)).map m.to = (zs.take k).map m.to ++ [m.to (zs[k]?.getD 0)] := by
  rw [take_snoc h, List.map_append]; rfl

set_option maxRecDepth 100000 in
set_option maxHeartbeats 4000000 in
theorem toEach_any (a0 : Option Addr) (n0 cap0 : Nat) (zs : List Int) (m : Ms) (w : World) (hz : zs.length = n0) (hn : n0 ≤ 2000000) (hb : Nums .i64 w a0 zs) :
    Calls Try.prog 51 #[.slice a0 n0 cap0, .agg m.cells] w (MsgsOut w (zs.map m.to)) := by
  have HZ : Hid (zs.length = n0) := hz
  have HN : Hid (Nums .i64 w a0 zs) := hb
  refine hideC fun C HC => ?_
  clear hz hb
  go_enter Try.func51, Try.ntmps51
  go_upto_region 0 with fail
  refine WL.start ?_
  refine uR (pV w.heap.size 0) (w.alloc (.cells m.cells 47)) (exec_box 47 _ rfl m.cells (by kernel_rfl)) ?_
  try simp only [pS]
  refine uK (.slice none 0 0) <| WL.nil <| ?_
  try simp only [pS]
  obtain ⟨w1, hw1⟩ : ∃ w1, w1 = w.alloc (.cells m.cells 47) := ⟨_, rfl⟩
  have HB1 : Hid (Box w1 w.heap.size 47 m.cells) := by rw [hw1]; exact Box.new _ _ _
  have HK1 : Hid (Kept No w w1) := by rw [hw1]; exact (Kept.refl No w).alloc _
  rw [← hw1]
  clear hw1
  obtain ⟨B, hB⟩ : ∃ B, B = w.heap.size := ⟨_, rfl⟩
  have HBB : Hid (B = w.heap.size) := hB
  rw [← hB] at HB1
  rw [← hB]
  clear hB
  go_wp2
  go_loopw [5, 10] (fun v vi wr => ∃ (k : Nat) (a' : Option Addr) (cap' : Nat), vi = .int .i64 k ∧ k ≤ n0 ∧ v = .slice a' k cap' ∧ Hid (Own 47 30 wr w1.heap.size a' cap' k (msL ((zs.take k).map m.to))) ∧ Hid (∃ mm : Ms, Box wr B 47 mm.cells ∧ ∀ z, mm.to z = m.to z) ∧ Hid (Kept (Only B) w1 wr)) (fun _ i _ => n0 - (intOf i).toNat)
  case atStart => exact ⟨0, none, 0, by go_num, by omega, rfl, Own.nil _ _ _ _, ⟨m, HB1.out, fun z => rfl⟩, Kept.refl _ _⟩
  case round =>
    obtain ⟨k, a', cap', rfl, hk, rfl, HO, HM, HK⟩ := hrel
    have HBl : Hid (B < w1.heap.size) := HB1.out.lt
    clear HB1
    have HKw : Hid (Kept No w wr) := HK1.out.trans HK.out (fun _ e => e) (fun i hi e => by have e : i = B := e; have := HBB.out; omega)
    by_cases hlt : k < n0
    · have hlt' : (k : Int) < (n0 : Int) := by omega
      obtain ⟨bb, off, rfl, hcell⟩ := (HN.out.no HKw.out) k (by rw [HZ.out]; exact hlt)
      have HTk : Hid ((zs.take (k + 1)).map m.to = (zs.take k).map m.to ++ [m.to (zs[k]?.getD 0)]) := take_map m (by rw [HZ.out]; exact hlt)
      generalize zs[k]?.getD 0 = z at hcell HTk
      go_upto_region 5 with fail
      clear hcell
      obtain ⟨mm, hbm, hmm⟩ := HM.out
      have HBm : Hid (Box wr B 47 mm.cells) := hbm
      have HMM : Hid (mm.to z = m.to z) := hmm z
      clear hbm hmm HM
      refine WL.start <| uK (.int .i64 z) <| uW (.agg #[.bool false, .int .i64 z]) (exec_build 37 _ rfl _ (by kernel_rfl)) <| uK (pV B 3) <| ?_
      try simp only [pS]
      refine uT 37 ⟨B, 3, none⟩ (.agg #[.bool false, .int .i64 z]) _ (store_To HBm.out z) ?_
      try simp only [pS]
      refine WL.nil ?_
      try simp only [pS]
      rw [HMM.out]
      obtain ⟨w2, hw2⟩ : ∃ w2, w2 = wr.setRow B (m.to z).cells := ⟨_, rfl⟩
      have HB2 : Hid (Box w2 B 47 (m.to z).cells) := by rw [hw2]; exact HBm.out.setRow _
      have HK2 : Hid (Kept (Only B) wr w2) := by rw [hw2]; exact Kept.setRow _ _ _
      have HO2 : Hid (Own 47 30 w2 w1.heap.size a' cap' k (msL ((zs.take k).map m.to))) := HO.out.kept HK2.out (fun q hq e => by have e : q = B := e; have h1 := HO.out.base hq; have h2 := HBl.out; omega)
      have HS2 : Hid (w1.heap.size ≤ w2.heap.size) := (HK.out.then HK2.out).size
      rw [← hw2]
      clear hw2 HBm HMM HO
      go_upto_region 6 with fail
      refine WL.start <| uK (.slice a' k cap') <| uL 47 ⟨B, 0, none⟩ (.agg (m.to z).cells) (load_Ms HB2.out) <| ?_
      try simp only [pS]
      refine uR (.slice (some ⟨w2.heap.size, 0, none⟩) 1 1) (w2.alloc (.cells (m.to z).cells 47)) (exec_slice2 66 47 _ rfl (m.to z).cells (.agg (m.to z).cells) (by kernel_rfl) (slice1_ms _ _)) ?_
      try simp only [pS]
      refine wp_appW (vs := .slice a' k cap') (vx := .slice (some ⟨w2.heap.size, 0, none⟩) 1 1) (base := w1.heap.size) (n := k) (c := 30) (E := 47) (sa := a') (l := msL ((zs.take k).map m.to) ++ (m.to z).cs)
        (fun A h1 h2 => exec_append _ _ 66 47 30 312 _ Try.und66 Try.info47 rfl (by omega) rfl w1.heap.size k cap' a' _ h1 (HO2.out.no ((Kept.refl No w2).alloc _)) ⟨w2.heap.size, 0, none⟩ 1 (m.to z).cs h2 rfl (cell_newL _ _ _) (m.to z).oneL (by omega) (by omega) (by have := HS2.out; simp; omega)) (by kernel_rfl) (by kernel_rfl) (by kernel_rfl) ?_
      intro g' cap'' w3 hO3 hK3 hA3
      try simp only [pS]
      refine uK (.slice (some ⟨g', 0, none⟩) (k + 1) cap'') <| WL.nil <| ?_
      try simp only [pS]
      have HB3 : Hid (Box w3 B 47 (m.to z).cells) := (HB2.out.alloc _).kept hK3 (fun e => by have h1 := HO2.out.base e; have h2 := HBl.out; omega)
      have HK3 : Hid (Kept (Only B) w1 w3) := ((HK.out.then HK2.out).alloc _).trans hK3 (fun _ e => e) (fun i hi e => by have h1 := HO2.out.base e; omega)
      have HO3 : Hid (Own 47 30 w3 w1.heap.size (some ⟨g', 0, none⟩) cap'' (k + 1) (msL ((zs.take (k + 1)).map m.to))) := by rw [HTk.out, msL_snoc]; exact hO3
      clear hO3 hK3 hA3 HB2 HK2 HO2 HS2
      go_wp2
      go_roundw
      case rel => exact ⟨k + 1, _, _, by go_num, by omega, rfl, HO3, ⟨_, HB3.out, fun z' => rfl⟩, HK3⟩
      case measure => simp [intOf]; omega
    · have hlt' : ¬ (k : Int) < (n0 : Int) := by omega
      obtain rfl : k = n0 := by omega
      go_wp2
      rw [HC.out]
      have hO := HO.out
      rw [List.take_of_length_le (by rw [HZ.out]; omega)] at hO
      have hl : (zs.map m.to).length = k := by rw [List.length_map]; exact HZ.out
      unfold MsgsOut
      rw [hl]
      exact ⟨a', cap', rfl, Own.lower hO (HK1.out.size), HKw.out⟩
end Go.Proofs.Ytpabpeppgpeaoaa
