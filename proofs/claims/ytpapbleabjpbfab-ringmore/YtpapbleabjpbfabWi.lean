import Derived.Test.YtpapbleabjpbfabBz
namespace Go.Proofs.Ytpapbleabjpbfab
open Go.RowKit
set_option linter.unusedVariables false

/-- The row behind k servers, with one put in at its place. -/
def insK (i pl : Int) (zs : List Int) : Nat → List Int
  | 0 => []
  | k + 1 => (if (k : Int) = pl then insK i pl zs k ++ [i] else insK i pl zs k) ++ [zs[k]?.getD 0]
theorem insK_perm (i pl : Int) (zs : List Int) : ∀ k, k ≤ zs.length → (if 0 ≤ pl ∧ pl < (k : Int) then (insK i pl zs k).Perm (i :: zs.take k) else insK i pl zs k = zs.take k)
  | 0, _ => by rw [if_neg (by omega)]; rfl
  | k + 1, hk => by
    have ih := insK_perm i pl zs k (by omega)
    have ht : zs.take (k + 1) = zs.take k ++ [zs[k]?.getD 0] := by rw [List.take_succ_eq_append_getElem (by omega), List.getElem?_eq_getElem (by omega)]; rfl
    by_cases e : (k : Int) = pl
    · rw [if_neg (by omega)] at ih
      rw [if_pos (by omega), insK, if_pos e, ih, ht]
      have := (List.perm_append_comm (l₁ := zs.take k) (l₂ := [i])).append_right [zs[k]?.getD 0]
      exact this
    · by_cases h : 0 ≤ pl ∧ pl < (k : Int)
      · rw [if_pos h] at ih
        rw [if_pos (by omega), insK, if_neg e, ht]
        exact ih.append_right _
      · rw [if_neg h] at ih
        rw [if_neg (by omega), insK, if_neg e, ht, ih]
theorem insK_len (i pl : Int) (zs : List Int) (k : Nat) (hk : k ≤ zs.length) : (insK i pl zs k).length = if 0 ≤ pl ∧ pl < (k : Int) then k + 1 else k := by
  have h := insK_perm i pl zs k hk
  split
  · rename_i e
    rw [if_pos e] at h
    rw [h.length_eq]
    simp
    omega
  · rename_i e
    rw [if_neg e] at h
    rw [h]
    simp
    omega
/-- What with tells. -/
def WithR (w w' : World) (e : Ending) (i : Int) (zs : List Int) (f p bu bl ro : Int) : Prop :=
  ∃ a c l, e = .returned (cfgV (.slice a (zs.length + 1) c) f p bu bl ro) ∧ Nums .i64 w' a l ∧ l.length = zs.length + 1 ∧ l.Perm (i :: zs) ∧ Kept No w w'

theorem own_slice {w : World} {base n : Nat} {v : Value} {xs : List Value} (h : w.ownsRow base 3 1 v n xs) : ∃ va vc, v = .slice va n vc := by
  rcases h.2 with ⟨e, hn⟩ | ⟨g, cap', cur, e, hb, hg, rest⟩
  · subst hn; exact ⟨_, _, e⟩
  · exact ⟨_, _, e⟩
theorem with_end {w w1 w' : World} {n0 : Nat} {va : Option Addr} {vc : Nat} {i : Int} {zs l : List Int} {f p bu bl ro : Int} (hk : Kept No w w1) (hn : Nums .i64 w1 va l) (hv : ∀ b off, va = some ⟨b, off, none⟩ → n0 ≤ b) (hl : l.length = zs.length + 1) (hp : l.Perm (i :: zs)) (h0 : w.heap.size + 1 < n0)
    (hs : Kept (fun k => k = w.heap.size ∨ k = w.heap.size + 1) w1 w') : WithR w w' (.returned (cfgV (.slice va (zs.length + 1) vc) f p bu bl ro)) i zs f p bu bl ro :=
  ⟨va, vc, l, rfl, hn.kept hs (fun b off e h => by have := hv b off e; have h' : b = w.heap.size ∨ b = w.heap.size + 1 := h; omega), hl, hp, hk.trans hs (fun _ e => e) (fun i hi e => by have e' : i = w.heap.size ∨ i = w.heap.size + 1 := e; omega)⟩

set_option maxRecDepth 100000 in
set_option maxHeartbeats 4000000 in
theorem with_any (a : Option Addr) (cap : Nat) (zs : List Int) (f p bu bl ro i pl : Int) (w : World) (hm : zs.length ≤ 17592186043904) (hb : Nums .i64 w a zs) :
    Calls Try.prog 23 #[cfgV (.slice a zs.length cap) f p bu bl ro, .int .i64 i, .int .i64 pl] w fun e w' => WithR w w' e i zs f p bu bl ro := by
  have HB : Hid (Nums .i64 w a zs) := hb
  clear hb
  obtain ⟨i0, hi, hz0, hz1, hz2⟩ := info_parts Try.info3
  go_enter Try.func23, Try.ntmps23
  go_wp2_with fail
  obtain ⟨w0, hw0⟩ : ∃ w0, w0 = (w.alloc (.cells #[.slice a zs.length cap, .int .i64 f, .int .i64 p, .int .i64 bu, .int .i64 bl, .int .i64 ro] 24)).alloc (.cells #[.slice none 0 0, .int .i64 0, .int .i64 0, .int .i64 0, .int .i64 0, .int .i64 0] 24) := ⟨_, rfl⟩
  rw [← hw0]
  have HB0 : Hid (Box w0 w.heap.size 24 #[.slice a zs.length cap, .int .i64 f, .int .i64 p, .int .i64 bu, .int .i64 bl, .int .i64 ro]) := by
    rw [hw0]; exact (Box.new _ _ _).alloc _
  have HR0 : Hid (Box w0 (w.heap.size + 1) 24 #[.slice none 0 0, .int .i64 0, .int .i64 0, .int .i64 0, .int .i64 0, .int .i64 0]) := by
    rw [hw0]; show Box _ _ _ _; have := Box.new (w.alloc (.cells #[.slice a zs.length cap, .int .i64 f, .int .i64 p, .int .i64 bu, .int .i64 bl, .int .i64 ro] 24)) 24 #[.slice none 0 0, .int .i64 0, .int .i64 0, .int .i64 0, .int .i64 0, .int .i64 0]
    simpa using this
  have HK0 : Hid (Kept No w w0) := by rw [hw0]; exact ((Kept.refl No w).alloc _).alloc _
  have hs0 : w0.heap.size = w.heap.size + 2 := by rw [hw0]; simp
  clear hw0
  have HM : Hid (∀ W, Kept No w0 W → Nums .i64 W a zs ∧ W.cell? ⟨w.heap.size, 0, none⟩ = some (.slice a zs.length cap)) := fun W hk => ⟨(HB.out.no HK0.out).no hk, ((HB0.out.kept hk (fun e => e)).cell 0).trans rfl⟩
  have HLn : Hid (∀ k, k ≤ zs.length → (insK i pl zs k).length ≤ zs.length + 1) := fun k hk => by rw [insK_len i pl zs k hk]; split <;> omega
  go_loopw [7, 8] (fun v vj wr => ∃ (k : Nat), vj = .int .i64 k ∧ k ≤ zs.length ∧ Hid (wr.ownsRow w0.heap.size 3 1 v (insK i pl zs k).length ((insK i pl zs k).map (Value.int .i64))) ∧ Hid (Kept No w0 wr)) (fun _ j _ => zs.length - (intOf j).toNat)
  case atStart => exact ⟨0, by go_num, by omega, ⟨rfl, .inl ⟨rfl, rfl⟩⟩, Kept.refl _ _⟩
  case round =>
    obtain ⟨k, rfl, hk, HO, HK⟩ := hrel
    have HSz : Hid (w0.heap.size ≤ wr.heap.size) := HK.out.size
    have HOa : Hid (∀ o, (wr.alloc o).ownsRow w0.heap.size 3 1 u7 (insK i pl zs k).length ((insK i pl zs k).map (Value.int .i64))) := fun o => owns_no HO.out ((Kept.refl No wr).alloc o)
    have HOB : Hid (∀ q, u7.ownBlock = some q → w0.heap.size ≤ q) := fun q e => own_block HO.out q e
    obtain ⟨hn0, c0⟩ := HM.out wr HK.out
    by_cases hlt : k < zs.length
    · obtain ⟨b, off, rfl, hcell⟩ := hn0 k hlt
      have hk1 : (k : Int) < (zs.length : Int) := by omega
      have hk0 : (0 : Int) ≤ (k : Int) := by omega
      have HIn : Hid (insK i pl zs (k + 1) = (if (k : Int) = pl then insK i pl zs k ++ [i] else insK i pl zs k) ++ [zs[k]?.getD 0]) := rfl
      have HL1 : Hid ((insK i pl zs k).length ≤ zs.length + 1) := HLn.out k hk
      have HL2 : Hid ((insK i pl zs (k + 1)).length ≤ zs.length + 1) := HLn.out (k + 1) (by omega)
      have HC : Hid (∀ W, Kept No w0 W → W.cell? ⟨b, off + k, none⟩ = some (.int .i64 (zs[k]?.getD 0)) ∧ W.cell? ⟨w.heap.size, 0, none⟩ = some (.slice (some ⟨b, off, none⟩) zs.length cap)) := fun W hk => by
        obtain ⟨h1, h2⟩ := HM.out W hk
        obtain ⟨b2, off2, e2, hc2⟩ := h1 k hlt
        cases e2
        exact ⟨hc2, h2⟩
      generalize zs[k]?.getD 0 = z at hcell HIn HC
      have HI : Hid (insK i pl zs (k + 1) = (if (k : Int) = pl then insK i pl zs k ++ [i] else insK i pl zs k) ++ [z]) := HIn.out
      clear HIn
      generalize insK i pl zs k = ik at HO HOa HL1 HI
      by_cases hp : (k : Int) = pl
      · have HI2 : Hid (insK i pl zs (k + 1) = (ik ++ [i]) ++ [z]) := by have := HI.out; rwa [if_pos hp] at this
        have HL3 : Hid ((ik ++ [i]).length ≤ zs.length + 1) := by have := HL2.out; rw [HI2.out] at this; show _ ≤ _; simp at this ⊢; omega
        have TX1 : True := trivial
        have TX2 : True := trivial
        clear HI HL2 HO
        subst hp
        go_wp2_with (first
          | (at_builtin
             have hguard := TX1
             clear hguard TX1
             refine wpList_append_own _ rfl (.tmp 19) (.tmp 21) 22 rfl w0.heap.size 3 i0 (.int .i64 0) 1 8 Try.underlying22 hi hz0 hz1 hz2 rfl (by decide) _ _ _ rfl (HOa.out _) ⟨wr.heap.size, 0, none⟩ 1 1 [.int .i64 i] rfl rfl (cell_new1 _ _ _) (by simp [Value.oneCell']) (by have := HL1.out; unfold maxLen; omega) (by have := HL1.out; omega) (by have := HSz.out; simp; omega) ?_
             intro v2 w2 hown2 hgrow2 hnil2
             have HO2 : Hid (w2.ownsRow w0.heap.size 3 1 v2 (ik ++ [i]).length ((ik ++ [i]).map (Value.int .i64))) := (by
               rw [List.length_append, List.map_append]; exact hown2)
             have HK2 : Hid (Kept No w0 w2) := (HK.out.alloc _).grown hgrow2 (fun q e hq => absurd (HOB.out q e) (by omega))
             have HOa2 : Hid (∀ o, (w2.alloc o).ownsRow w0.heap.size 3 1 v2 (ik ++ [i]).length ((ik ++ [i]).map (Value.int .i64))) := (fun o => owns_no HO2.out ((Kept.refl No w2).alloc o))
             have HOB2 : Hid (∀ q, v2.ownBlock = some q → w0.heap.size ≤ q) := (fun q e => own_block HO2.out q e)
             have HSz2 : Hid (w0.heap.size ≤ w2.heap.size) := HK2.out.size
             clear c0 hcell
             obtain ⟨hcell, c0⟩ := HC.out w2 HK2.out
             clear HOa HK
             clear hown2 hgrow2 hnil2)
          | (at_builtin
             have hguard := TX2
             clear hguard TX2
             refine wpList_append_own _ rfl (.tmp 23) (.tmp 29) 22 rfl w0.heap.size 3 i0 (.int .i64 0) 1 8 Try.underlying22 hi hz0 hz1 hz2 rfl (by decide) _ _ _ rfl (HOa2.out _) ⟨w2.heap.size, 0, none⟩ 1 1 [.int .i64 z] rfl rfl (cell_new1 _ _ _) (by simp [Value.oneCell']) (by have := HL3.out; unfold maxLen; omega) (by have := HL3.out; omega) (by have := HSz2.out; simp; omega) ?_
             intro v3 w3 hown3 hgrow3 hnil3
             have HO3 : Hid (w3.ownsRow w0.heap.size 3 1 v3 ((ik ++ [i]) ++ [z]).length (((ik ++ [i]) ++ [z]).map (Value.int .i64))) := (by
               rw [List.length_append, List.map_append]; exact hown3)
             have HK3 : Hid (Kept No w0 w3) := (HK2.out.alloc _).grown hgrow3 (fun q e hq => absurd (HOB2.out q e) (by omega))
             
             clear hown3 hgrow3 hnil3)
          | fail)
        go_roundw
        case rel => exact ⟨k + 1, by go_num, by omega, by rw [HI2.out]; exact HO3, HK3⟩
        case measure => simp [intOf]; omega
      · have HI2 : Hid (insK i pl zs (k + 1) = ik ++ [z]) := by have := HI.out; rwa [if_neg hp] at this
        have hp' : ((k : Int) == pl) = false := by simpa using hp
        have TX1 : True := trivial
        clear HI HL2 HO
        go_wp2_with (first
          | (at_builtin
             have hguard := TX1
             clear hguard TX1
             refine wpList_append_own _ rfl (.tmp 23) (.tmp 29) 22 rfl w0.heap.size 3 i0 (.int .i64 0) 1 8 Try.underlying22 hi hz0 hz1 hz2 rfl (by decide) _ _ _ rfl (HOa.out _) ⟨wr.heap.size, 0, none⟩ 1 1 [.int .i64 z] rfl rfl (cell_new1 _ _ _) (by simp [Value.oneCell']) (by have := HL1.out; unfold maxLen; omega) (by have := HL1.out; omega) (by have := HSz.out; simp; omega) ?_
             intro v3 w3 hown3 hgrow3 hnil3
             have HO3 : Hid (w3.ownsRow w0.heap.size 3 1 v3 (ik ++ [z]).length ((ik ++ [z]).map (Value.int .i64))) := (by
               rw [List.length_append, List.map_append]; exact hown3)
             have HK3 : Hid (Kept No w0 w3) := (HK.out.alloc _).grown hgrow3 (fun q e hq => absurd (HOB.out q e) (by omega))
             
             clear hown3 hgrow3 hnil3)
          | fail)
        go_roundw
        case rel => exact ⟨k + 1, by go_num, by omega, by rw [HI2.out]; exact HO3, HK3⟩
        case measure => simp [intOf]; omega
    · obtain rfl : k = zs.length := by omega
      have hk1 : ¬ (zs.length : Int) < (zs.length : Int) := by omega
      have hpm := insK_perm i pl zs zs.length (Nat.le_refl _)
      have hpl := insK_len i pl zs zs.length (Nat.le_refl _)
      have HL1 : Hid ((insK i pl zs zs.length).length ≤ zs.length + 1) := HLn.out _ (Nat.le_refl _)
      clear hn0 HLn HM
      by_cases hin : 0 ≤ pl ∧ pl < (zs.length : Int)
      · have HP1 : Hid ((insK i pl zs zs.length).Perm (i :: zs)) := by rw [if_pos hin, List.take_length] at hpm; exact hpm
        have HP2 : Hid ((insK i pl zs zs.length).length = zs.length + 1) := by rw [if_pos hin] at hpl; exact hpl
        clear hpm hpl hin HOa
        generalize insK i pl zs zs.length = ik at HO HP1 HP2
        have hv : ∃ va vc, u7 = .slice va (zs.length + 1) vc := by
          rcases HO.out.2 with ⟨e, hn⟩ | ⟨g, cap', cur, e, hb, hg, rest⟩
          · rw [HP2.out] at hn; omega
          · rw [HP2.out] at e; exact ⟨_, _, e⟩
        obtain ⟨va, vc, hv⟩ := hv
        subst hv
        have HNa : Hid (Nums .i64 wr va ik) := by
          have := HO.out
          rw [HP2.out] at this
          exact Own.nums this HP2.out
        have HBx : Hid _ := HB0.out.kept HK.out (fun e => e)
        have HRx : Hid _ := HR0.out.kept HK.out (fun e => e)
        clear c0
        have c0 := Box.cell HBx.out 0
        have c1 := Box.cell HBx.out 1
        have c2 := Box.cell HBx.out 2
        have c3 := Box.cell HBx.out 3
        have c4 := Box.cell HBx.out 4
        have c5 := Box.cell HBx.out 5
        have f0 := Box.frozen HBx.out 0
        have r0 := Box.frozen HRx.out 0
        have r1 := Box.frozen HRx.out 1
        have r2 := Box.frozen HRx.out 2
        have r3 := Box.frozen HRx.out 3
        have r4 := Box.frozen HRx.out 4
        have r5 := Box.frozen HRx.out 5
        have s0 := Box.cell HRx.out 0
        have s1 := Box.cell HRx.out 1
        have s2 := Box.cell HRx.out 2
        have s3 := Box.cell HRx.out 3
        have s4 := Box.cell HRx.out 4
        have s5 := Box.cell HRx.out 5
        simp only [List.getElem?_toArray, List.getElem?_cons_zero, List.getElem?_cons_succ] at c0 c1 c2 c3 c4 c5 s0 s1 s2 s3 s4 s5
        have HOV : Hid (∀ b off, va = some ⟨b, off, none⟩ → w0.heap.size ≤ b) := fun b off e => HOB.out b (by rw [e]; rfl)
        go_wp2
        refine bodyPost_ret (v := cfgV (.slice va (zs.length + 1) vc) f p bu bl ro) (by simp [results, Try.results23, go_sem, s0, s1, s2, s3, s4, s5]) rfl ?_
        refine with_end (va := va) (vc := vc) (HK0.out.then HK.out) HNa.out HOV.out HP2.out HP1.out ?_ ?_
        · omega
        · refine (((((((Kept.refl _ wr).setCell ?_ _).setCell ?_ _).setCell ?_ _).setCell ?_ _).setCell ?_ _).setCell ?_ _).setCell ?_ _
          all_goals (intro _; show _ ∨ _; simp)
      · have HP0 : Hid (insK i pl zs zs.length = zs) := by rw [if_neg hin, List.take_length] at hpm; exact hpm
        rw [HP0.out] at HOa HO
        obtain ⟨ua, uc, hu⟩ := own_slice HO.out
        subst hu
        clear hpm hpl hin HO HL1
        have TX1 : True := trivial
        go_wp2_with (first
          | (at_builtin
             have hguard := TX1
             clear hguard TX1
             refine wpList_append_own _ rfl (.tmp 37) (.tmp 39) 22 rfl w0.heap.size 3 i0 (.int .i64 0) 1 8 Try.underlying22 hi hz0 hz1 hz2 rfl (by decide) _ _ _ rfl (HOa.out _) ⟨wr.heap.size, 0, none⟩ 1 1 [.int .i64 i] rfl rfl (cell_new1 _ _ _) (by simp [Value.oneCell']) (by unfold maxLen; omega) (by omega) (by have := HSz.out; simp; omega) ?_
             intro v3 w3 hown3 hgrow3 hnil3
             have HO3 : Hid (w3.ownsRow w0.heap.size 3 1 v3 (zs.length + 1) ((zs ++ [i]).map (Value.int .i64))) := (by
               rw [List.map_append]; exact hown3)
             have HK3 : Hid (Kept No w0 w3) := (HK.out.alloc _).grown hgrow3 (fun q e hq => absurd (HOB.out q e) (by omega))
             clear hown3 hgrow3 hnil3 c0
             obtain ⟨va, vc, hv⟩ := own_slice HO3.out
             subst hv
             have HNa : Hid (Nums .i64 w3 va (zs ++ [i])) := (Own.nums HO3.out (by simp))
             have HOV : Hid (∀ b off, va = some ⟨b, off, none⟩ → w0.heap.size ≤ b) := (fun b off e => own_block HO3.out b (by rw [e]; rfl))
             have HP1 : Hid ((zs ++ [i]).Perm (i :: zs)) := (by show List.Perm _ _; exact List.perm_append_comm (l₁ := zs) (l₂ := [i]))
             have HP2 : Hid ((zs ++ [i]).length = zs.length + 1) := (by show _ = _; simp)
             have HBx : Hid _ := HB0.out.kept HK3.out (fun e => e)
             have HRx : Hid _ := HR0.out.kept HK3.out (fun e => e)
             have c0 := Box.cell HBx.out 0
             have c1 := Box.cell HBx.out 1
             have c2 := Box.cell HBx.out 2
             have c3 := Box.cell HBx.out 3
             have c4 := Box.cell HBx.out 4
             have c5 := Box.cell HBx.out 5
             have f0 := Box.frozen HBx.out 0
             have r0 := Box.frozen HRx.out 0
             have r1 := Box.frozen HRx.out 1
             have r2 := Box.frozen HRx.out 2
             have r3 := Box.frozen HRx.out 3
             have r4 := Box.frozen HRx.out 4
             have r5 := Box.frozen HRx.out 5
             have s0 := Box.cell HRx.out 0
             have s1 := Box.cell HRx.out 1
             have s2 := Box.cell HRx.out 2
             have s3 := Box.cell HRx.out 3
             have s4 := Box.cell HRx.out 4
             have s5 := Box.cell HRx.out 5
             simp only [List.getElem?_toArray, List.getElem?_cons_zero, List.getElem?_cons_succ] at c0 c1 c2 c3 c4 c5 s0 s1 s2 s3 s4 s5)
          | fail)
        refine bodyPost_ret (v := cfgV (.slice va (zs.length + 1) vc) f p bu bl ro) (by simp [results, Try.results23, go_sem, s0, s1, s2, s3, s4, s5]) rfl ?_
        refine with_end (va := va) (vc := vc) (HK0.out.then HK3.out) HNa.out HOV.out HP2.out HP1.out ?_ ?_
        · omega
        · refine (((((((Kept.refl _ w3).setCell ?_ _).setCell ?_ _).setCell ?_ _).setCell ?_ _).setCell ?_ _).setCell ?_ _).setCell ?_ _
          all_goals (intro _; show _ ∨ _; simp)

end Go.Proofs.Ytpapbleabjpbfab
