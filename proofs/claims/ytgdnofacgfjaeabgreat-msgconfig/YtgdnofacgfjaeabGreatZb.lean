import Derived.Test.YtgdnofacgfjaeabGreatZa
namespace Go.Proofs.YtgdnofacgfjaeabGreat
open Go.RowKit
set_option linter.unusedVariables false

theorem rightId_any (n : Int) (w : World) : Calls Tryz.prog 117 #[.int .i64 n] w fun e w' => e = .returned (.bool (inB n 1 255)) ∧ w' = w := by
  go_enter Tryz.func117, Tryz.ntmps117
  go_wp2_with (go_at_call 92; refine (within_any _ _ _ _).mono ?_; rintro e w' ⟨rfl, rfl⟩)
  go_ret
  exact ⟨rfl, rfl⟩
theorem rightNum_any (n : Int) (w : World) : Calls Tryz.prog 118 #[.int .i64 n] w fun e w' => e = .returned (.bool (inB n 1 1099511627776)) ∧ w' = w := by
  go_enter Tryz.func118, Tryz.ntmps118
  go_wp2_with (go_at_call 92; refine (within_any _ _ _ _).mono ?_; rintro e w' ⟨rfl, rfl⟩)
  go_ret
  exact ⟨rfl, rfl⟩

/-- Which ids were seen, as cells. -/
def bsA (f : Nat → Bool) : Array Value := ((List.range 256).map (fun i => Value.bool (f i))).toArray
theorem bsA_at (f : Nat → Bool) {i : Nat} (h : i < 256) : (bsA f)[i]? = some (.bool (f i)) := by simp [bsA, h]
theorem bsA_set (f : Nat → Bool) {i : Nat} (h : i < 256) : (bsA f).setIfInBounds i (.bool true) = bsA (fun j => if j = i then true else f j) := by
  apply Array.ext_getElem?
  intro j
  rw [Array.getElem?_setIfInBounds]
  by_cases hj : j < 256
  · rw [bsA_at _ hj]
    by_cases e : i = j
    · subst e; simp [bsA, hj]
    · rw [if_neg e, bsA_at _ hj, if_neg (fun e' => e e'.symm)]
  · have h1 : ∀ g, (bsA g)[j]? = none := fun g => by
      apply Array.getElem?_eq_none; simp [bsA]; omega
    rw [h1, h1]
    split
    · have : j < 256 := by omega
      omega
    · rfl
theorem Tryz.info226 : (Tryz.prog.info? 226).map (fun i => (i.zero, i.size, i.bytes)) = some (some (.agg (bsA (fun _ => false))), 256, 256) := by kernel_rfl
theorem Tryz.zero226 (w : World) : (zeroValue 226).run Tryz.prog w = .ok (.agg (bsA (fun _ => false))) w := by
  obtain ⟨i0, hi, hz0, hz1, hz2⟩ := info_parts Tryz.info226
  simp [zeroValue, typeInfo, hi, hz0]

section
variable {ops : Array Oper} {rest : List Oper} {o : Oper} {a : Act} {w : World} {Q : Exit → Act → World → Prop}
theorem wp_runTo (hg : o.guard = none) (v : Value) (w' : World) (hrun : (execOp a.eval o).run Tryz.prog w = .ok (.value v) w')
    (h : wpList Tryz.prog ops Q rest (a.put o.dst v) w') : wpList Tryz.prog ops Q (o :: rest) a w := by
  refine wpList_plain hg fun K hK => ?_
  unfold Oper.wp
  rw [hrun, Oper.upon_value]
  exact hK _ _ h
theorem wp_allocB (hg : o.guard = none) (ho : o.op = .alloc 226) (N : Nat) (hN : w.heap.size = N)
    (h : wpList Tryz.prog ops Q rest (a.put o.dst (.pointer (some ⟨N, 0, none⟩))) (w.alloc (.cells (bsA (fun _ => false)) 226))) : wpList Tryz.prog ops Q (o :: rest) a w := by
  subst hN
  refine wp_runTo hg _ (w.alloc (.cells (bsA (fun _ => false)) 226)) ?_ h
  simp only [execOp, ho, Instr.alloc, Sem.run_bind, Tryz.zero226, Result.andThen_ok, newVar, newRow, run_newObj_alloc, Sem.run_pure]
  rfl
end

open Classical in
/-- Seen among the first k. -/
noncomputable def seenF (zs : List Int) (k : Nat) : Nat → Bool := fun i => decide (∃ m, m < k ∧ zs[m]?.getD 0 = (i : Int))
theorem seenF_zero (zs : List Int) : seenF zs 0 = fun _ => false := by
  funext i; unfold seenF; simp
theorem seenF_iff (zs : List Int) (k i : Nat) : seenF zs k i = true ↔ ∃ m, m < k ∧ zs[m]?.getD 0 = (i : Int) := by unfold seenF; simp
theorem seenF_next (zs : List Int) (k n : Nat) (h : zs[k]?.getD 0 = (n : Int)) : (fun j => if j = n then true else seenF zs k j) = seenF zs (k + 1) := by
  funext j
  by_cases e : j = n
  · subst e; rw [if_pos rfl]; symm; rw [seenF_iff]; exact ⟨k, by omega, h⟩
  · rw [if_neg e]
    have : seenF zs k j = true ↔ seenF zs (k + 1) j = true := by
      rw [seenF_iff, seenF_iff]
      constructor
      · rintro ⟨m, hm, h'⟩; exact ⟨m, by omega, h'⟩
      · rintro ⟨m, hm, h'⟩
        by_cases em : m = k
        · subst em; rw [h] at h'; omega
        · exact ⟨m, by omega, h'⟩
    cases h1 : seenF zs k j <;> cases h2 : seenF zs (k + 1) j <;> simp_all

open Classical in
noncomputable def goodB (zs : List Int) : Bool := decide (Good zs zs.length)
open Classical in
theorem goodB_no {zs : List Int} (h : ¬ Good zs zs.length) : false = goodB zs := by unfold goodB; rw [decide_eq_false h]
open Classical in
theorem goodB_yes {zs : List Int} (h : Good zs zs.length) : true = goodB zs := by unfold goodB; rw [decide_eq_true h]

set_option maxRecDepth 100000 in
set_option maxHeartbeats 2000000 in
theorem unlikeIds_any (a : Option Addr) (cap : Nat) (zs : List Int) (w : World) (hb : Nums .i64 w a zs) (hm : zs.length ≤ 17592186043904) :
    Calls Tryz.prog 128 #[.slice a zs.length cap] w fun e w' => e = .returned (.bool (goodB zs)) ∧ Kept No w w' := by
  have HB : Hid (Nums .i64 w a zs) := hb
  clear hb
  have TA : Hid (1 = 1) := rfl
  go_enter Tryz.func128, Tryz.ntmps128
  go_wp2_with (have hguard := TA; clear hguard; refine wp_allocB rfl rfl w.heap.size rfl ?_; clear TA)
  obtain ⟨w0, hw0⟩ : ∃ w0, w0 = w.alloc (.cells (bsA (fun _ => false)) 226) := ⟨_, rfl⟩
  rw [← hw0]
  have HS0 : Hid (Box w0 w.heap.size 226 (bsA (seenF zs 0))) := by rw [hw0, seenF_zero]; exact Box.new _ _ _
  have HK0 : Hid (Kept No w w0) := by rw [hw0]; exact (Kept.refl No w).alloc _
  clear hw0
  go_wp2
  go_loopw [8] (fun i wr => ∃ k : Nat, k ≤ zs.length ∧ i = .int .i64 (k : Int) ∧ Hid (Good zs k) ∧ Hid (Box wr w.heap.size 226 (bsA (seenF zs k))) ∧ Hid (Kept No w wr)) (fun i _ => zs.length - (intOf i).toNat)
  case atStart => exact ⟨0, Nat.zero_le _, rfl, fun j hj => absurd hj (Nat.not_lt_zero _), HS0, HK0⟩
  case round =>
    obtain ⟨k, hk, rfl, HG, HS, HK⟩ := hrel
    clear HS0 HK0
    by_cases hlt : k < zs.length
    · obtain ⟨b, off, rfl, hc⟩ := (HB.out.no HK.out) k hlt
      obtain ⟨z, hz⟩ : ∃ z, zs[k]?.getD 0 = z := ⟨_, rfl⟩
      rw [hz] at hc
      have HZ : Hid (zs[k]?.getD 0 = z) := hz
      clear hz
      by_cases hr : 1 ≤ z ∧ z ≤ 255
      · obtain ⟨n, rfl⟩ : ∃ n : Nat, z = (n : Int) := ⟨z.toNat, by omega⟩
        have hn : n < 256 := by omega
        have hin : inB (n : Int) 1 255 = true := by unfold inB; simp; omega
        have c0 := HS.out.cell n
        rw [bsA_at _ hn] at c0
        have f0 := HS.out.frozen n
        have HS2 : Hid (Box (wr.setCell ⟨w.heap.size, n, none⟩ (.bool true)) w.heap.size 226 (bsA (seenF zs (k + 1)))) := by
          have := HS.out.set n (.bool true)
          rw [bsA_set _ hn, seenF_next zs k n HZ.out] at this
          exact this
        have HK2 : Hid (Kept No w (wr.setCell ⟨w.heap.size, n, none⟩ (.bool true))) := HK.out.setCell (p := ⟨w.heap.size, n, none⟩) (fun e => absurd e (by simp)) _
        have hn0 : (0 : Int) ≤ (n : Int) := by omega
        have hn1 : (n : Int) < 256 := by omega
        cases hs : seenF zs k n with
        | true =>
          have HX : Hid (¬ Good zs zs.length) := fun hg => by
            obtain ⟨m, hm, e⟩ := (seenF_iff zs k n).1 hs
            exact (hg k hlt).2 m hm (by rw [e, HZ.out])
          rw [hs] at c0
          clear hs hr HG HS HS2 HK2
          go_wp2_with (go_at_call 117; refine (rightId_any _ _).mono ?_; rintro e w2 ⟨rfl, h2⟩; rw [h2, hin]; clear h2 w2)
          go_ret
          exact ⟨ret_bool (goodB_no HX.out), HK.out⟩
        | false =>
          have HG2 : Hid (Good zs (k + 1)) := fun i hi => by
            by_cases e : i = k
            · subst e
              refine ⟨by rw [HZ.out]; omega, fun m hm e' => ?_⟩
              have : seenF zs i n = true := (seenF_iff zs i n).2 ⟨m, hm, by rw [e', HZ.out]⟩
              rw [hs] at this; cases this
            · exact HG.out i (by omega)
          rw [hs] at c0
          clear hs hr HG HS
          go_wp2_with (go_at_call 117; refine (rightId_any _ _).mono ?_; rintro e w2 ⟨rfl, h2⟩; rw [h2, hin]; clear h2 w2)
          go_roundw
          case rel => exact ⟨k + 1, by omega, by go_num, HG2, HS2, HK2⟩
          case measure => simp [intOf]; omega
      · have hin : inB z 1 255 = false := by unfold inB; simp; omega
        have HX : Hid (¬ Good zs zs.length) := fun hg => hr (by have := (hg k hlt).1; rwa [HZ.out] at this)
        clear hr HG
        go_wp2_with (go_at_call 117; refine (rightId_any _ _).mono ?_; rintro e w2 ⟨rfl, h2⟩; rw [h2, hin]; clear h2 w2)
        go_ret
        exact ⟨ret_bool (goodB_no HX.out), HK.out⟩
    · obtain rfl : k = zs.length := by omega
      go_wp2
      go_ret
      exact ⟨ret_bool (goodB_yes HG.out), HK.out⟩

open Classical in
theorem cfg_and (zs : List Int) (f p bu bl ro : Int) : (inB f 0 3 && (inB p 1 64 && (inB bu 1 256 && (inB bl 1 4096 && (inB ro 1 256 && (inB (zs.length : Int) (2 * f + 1) 64 && goodB zs)))))) = cfgB zs f p bu bl ro := by
  have e : (inB f 0 3 && (inB (zs.length : Int) (2 * f + 1) 64 && goodB zs)) = decide (HeadOk zs f ∧ Good zs zs.length) := by
    unfold goodB HeadOk inB
    by_cases h : Good zs zs.length
    · simp only [h, decide_true, Bool.and_true, and_true]
      rw [Bool.eq_iff_iff]; simp; omega
    · simp [h]
  unfold cfgB
  rw [← e]
  cases inB f 0 3 <;> cases inB p 1 64 <;> cases inB bu 1 256 <;> cases inB bl 1 4096 <;> cases inB ro 1 256 <;> cases (inB (zs.length : Int) (2 * f + 1) 64) <;> cases goodB zs <;> rfl

set_option maxRecDepth 100000 in
set_option maxHeartbeats 2000000 in
theorem rightConfig_any (a : Option Addr) (cap : Nat) (zs : List Int) (f p bu bl ro : Int) (w : World) (hb : Nums .i64 w a zs) (hm : zs.length ≤ 17592186043904) :
    Calls Tryz.prog 78 #[cfgV (.slice a zs.length cap) f p bu bl ro] w fun e w' => e = .returned (.bool (cfgB zs f p bu bl ro)) ∧ Kept No w w' := by
  rw [← cfg_and]
  have HR := fun w2 (h : Kept No w w2) => unlikeIds_any a cap zs w2 (hb.no h) hm
  have HR' : Hid _ := HR
  clear HR hb
  generalize goodB zs = sv at HR'
  by_cases hf : inB f 0 3 = true
  · have hf2 : 0 ≤ f ∧ f ≤ 3 := by unfold inB at hf; simp at hf; exact hf
    rw [hf]
    go_enter Tryz.func78, Tryz.ntmps78
    go_wp2_with (first
      | (go_at_call 92; refine (within_any _ _ _ _).mono ?_; rintro e w2 ⟨rfl, h2⟩; rw [h2]; clear h2 w2)
      | (go_at_call 128; refine (HR'.out _ ((Kept.refl No w).alloc _)).mono ?_; rintro e w2 ⟨rfl, hk2⟩))
    all_goals go_ret
    all_goals first
      | exact ⟨ret_bool (by simp_all), ((Kept.refl No w).alloc _).then hk2⟩
      | exact ⟨ret_bool (by simp_all), (Kept.refl No w).alloc _⟩
  · have hf2 : inB f 0 3 = false := by simpa using hf
    rw [hf2]
    go_enter Tryz.func78, Tryz.ntmps78
    go_wp2_with (go_at_call 92; refine (within_any _ _ _ _).mono ?_; rintro e w2 ⟨rfl, h2⟩; rw [h2, hf2]; clear h2 w2)
    go_ret
    exact ⟨rfl, (Kept.refl No w).alloc _⟩

theorem fits_any (a : Option Addr) (cap : Nat) (zs : List Int) (f p bu bl ro : Int) (w : World) (hb : Nums .i64 w a zs) :
    Calls Tryz.prog 27 #[cfgV (.slice a zs.length cap) f p bu bl ro] w fun e w' => e = .returned (.bool (cfgB zs f p bu bl ro)) ∧ Kept No w w' := by
  have HB : Hid (Nums .i64 w a zs) := hb
  clear hb
  go_enter Tryz.func27, Tryz.ntmps27
  go_wp2_with fail
  refine (is_any a cap zs f p bu bl ro _ (HB.out.no ((Kept.refl No w).alloc _))).mono ?_
  rintro e w2 ⟨rfl, hk2⟩
  have HK : Hid (Kept No w w2) := ((Kept.refl No w).alloc _).then hk2
  clear hk2
  go_wp2
  go_ret
  exact ⟨rfl, HK.out⟩

end Go.Proofs.YtgdnofacgfjaeabGreat
