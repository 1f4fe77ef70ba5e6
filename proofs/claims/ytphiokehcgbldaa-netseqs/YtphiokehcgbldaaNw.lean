import Derived.Test.YtphiokehcgbldaaNv
namespace Go.Proofs.Ytphiokehcgbldaa
open Go.RowKit Go.Shelf
set_option linter.unusedVariables false
set_option linter.unusedSimpArgs false

def adC (f : Ad) : List Value := [.bool f.1, .int .i64 f.2]
/-- A place of a row of structs. -/
theorem own_at {α : Type} {enc : α → List Value} {c : Nat} (hc : ∀ x, (enc x).length = c) (h0 : 0 < c) {T : TypeId} {W : World} {base cap : Nat} {a : Option Addr} {ps : List α} (h : Own T c W base a cap ps.length (ps.flatMap enc)) {i : Nat} {q : α} (hi : ps[i]? = some q) :
    ∃ pg, a = some ⟨pg, 0, none⟩ ∧ ∀ j u, (enc q)[j]? = some u → W.cell? ⟨pg, i * c + j, none⟩ = some u := by
  have hlt := (List.getElem?_eq_some_iff.1 hi).1
  rcases h.2 with ⟨hv, h00⟩ | ⟨g, cap', cur, hv, hb, hg, h1, h2, h3, h4⟩
  · omega
  · simp only [Value.slice.injEq] at hv
    obtain ⟨rfl, _, rfl⟩ := hv
    refine ⟨g, rfl, fun j u hu => ?_⟩
    have hj : j < c := by have := (List.getElem?_eq_some_iff.1 hu).1; rw [hc] at this; exact this
    have e : (ps.flatMap enc)[i * c + j]? = some u := by
      rw [fm_get enc c hc h0, Nat.mul_comm i c, Nat.mul_add_div h0, Nat.div_eq_of_lt hj, Nat.add_zero, Nat.mul_add_mod, Nat.mod_eq_of_lt hj, hi]
      exact hu
    rw [← h4, List.getElem?_take] at e
    split at e
    · simp [World.cell?, hg, e, ← Array.getElem?_toList]
    · cases e
set_option maxRecDepth 100000 in
set_option maxHeartbeats 8000000 in
theorem counted_any (a : Option Addr) (cap base : Nat) (ss : List Ad) (f : Ad) (w : World) (h : Own 34 2 w base a cap ss.length (ss.flatMap adC)) (hm : ss.length ≤ 1000000) :
    Calls Try.prog 14 #[.slice a ss.length cap, .agg #[.bool f.1, .int .i64 f.2]] w (fun e w' => e = .returned (.int .i64 (ss.count f : Nat)) ∧ Kept No w w') := by
  obtain ⟨fc, fi⟩ := f
  obtain ⟨m, hme⟩ : ∃ m, m = ss.length := ⟨_, rfl⟩
  have HM : Hid (ss.length = m) := hme.symm
  rw [← hme] at hm ⊢
  obtain ⟨w1, hw1⟩ : ∃ w1, w1 = w.alloc (.cells #[.bool fc, .int .i64 fi] 34) := ⟨_, rfl⟩
  have HO : Hid (Own 34 2 w1 base a cap ss.length (ss.flatMap adC) ∧ Box w1 w.heap.size 34 #[.bool fc, .int .i64 fi] ∧ Kept No w w1) := by
    rw [hw1]; exact ⟨h.no ((Kept.refl No w).alloc _), Box.new _ _ _, (Kept.refl No w).alloc _⟩
  clear h hme
  simp only
  go_enter Try.func14, Try.ntmps14
  go_wp2
  rw [← hw1]
  clear hw1
  go_loopw [5, 6] (fun v i wr => ∃ k : Nat, k ≤ m ∧ i = .int .i64 (k : Int) ∧ v = .int .i64 (((ss.take k).count (fc, fi) : Nat) : Int) ∧ ∃ n, wr = w1.drewN n) (fun _ i _ => m - (intOf i).toNat)
  case atStart => exact ⟨0, by omega, rfl, rfl, 0, rfl⟩
  case round =>
    obtain ⟨k, hk, rfl, rfl, nd, rfl⟩ := hrel
    by_cases hlt : k < m
    · obtain ⟨⟨qc, qi⟩, hq⟩ : ∃ q, ss[k]? = some q := ⟨_, List.getElem?_eq_getElem (by rw [HM.out]; exact hlt)⟩
      obtain ⟨pg, rfl, hc⟩ := own_at (enc := adC) (c := 2) (fun _ => rfl) (by omega) HO.out.1 hq
      have c0 : w1.cell? ⟨pg, k * 2, none⟩ = some (.bool qc) := by simpa using hc 0 _ rfl
      have c1 : w1.cell? ⟨pg, k * 2 + 1, none⟩ = some (.int .i64 qi) := hc 1 _ rfl
      have b0 : w1.cell? ⟨w.heap.size, 0, none⟩ = some (.bool fc) := HO.out.2.1.cell 0
      have b1 : w1.cell? ⟨w.heap.size, 1, none⟩ = some (.int .i64 fi) := HO.out.2.1.cell 1
      have hlt' : (k : Int) < (m : Int) := by omega
      have HT : Hid ((ss.take (k + 1)).count (fc, fi) = (ss.take k).count (fc, fi) + if (qc, qi) = (fc, fi) then 1 else 0) := by
        show _ = _
        rw [List.take_add_one, hq, List.count_append]
        by_cases e : (qc, qi) = (fc, fi) <;> simp [e, List.count_singleton]
      have hcl : (ss.take k).count (fc, fi) ≤ k := by
        have := List.count_le_length (a := ((fc, fi) : Ad)) (l := ss.take k)
        rw [List.length_take] at this; omega
      have e1 := beq34 qc fc qi fi
      clear hc hq
      generalize (ss.take k).count (fc, fi) = cn at HT hcl ⊢
      by_cases p : (qc, qi) = (fc, fi)
      · rw [if_pos p] at HT
        rw [decide_eq_true p] at e1
        clear p
        go_upto_region 5 with fail
        go_quiet (fail)
        go_wp2
        go_roundw
        case rel => exact ⟨k + 1, by omega, by go_num, by rw [HT.out]; go_num, _, rfl⟩
        case measure => simp [intOf]; omega
      · rw [if_neg p] at HT
        rw [decide_eq_false p] at e1
        clear p
        go_upto_region 5 with fail
        go_quiet (fail)
        go_wp2
        go_roundw
        case rel => exact ⟨k + 1, by omega, by go_num, by rw [HT.out]; go_num, _, rfl⟩
        case measure => simp [intOf]; omega
    · have hlt' : ¬ (k : Int) < (m : Int) := by omega
      go_wp2
      go_ret
      have hkm : k = m := by omega
      refine ⟨?_, HO.out.2.2.drewN _⟩
      rw [List.take_of_length_le (by rw [HM.out]; omega)]
      rfl
end Go.Proofs.Ytphiokehcgbldaa
