import Derived.Test.YtpapbleabjpbfabFi
namespace Go.Proofs.Ytpapbleabjpbfab
open Go.RowKit
set_option linter.unusedVariables false

/-- The server of the point k places behind the first one. -/
def srvAt (ps : List (Int × Int)) (fi k : Nat) : Int := (ps[(fi + k) % ps.length]?.getD (0, 0)).2
/-- The group behind k points. -/
def grpN (ps : List (Int × Int)) (fi want : Nat) : Nat → List Int
  | 0 => []
  | k + 1 => if (grpN ps fi want k).length = want ∨ srvAt ps fi k ∈ grpN ps fi want k then grpN ps fi want k else grpN ps fi want k ++ [srvAt ps fi k]
def grp (ps : List (Int × Int)) (hash : Int) (want : Nat) : List Int := grpN ps (firstN ps hash) want ps.length

theorem grpN_le (ps : List (Int × Int)) (fi want k : Nat) : (grpN ps fi want k).length ≤ want := by
  induction k with
  | zero => simp [grpN]
  | succ k ih =>
    unfold grpN
    split
    · exact ih
    · rename_i h
      simp only [List.length_append, List.length_cons, List.length_nil]
      have : (grpN ps fi want k).length ≠ want := fun e => h (.inl e)
      omega
theorem grpN_full {ps : List (Int × Int)} {fi want k : Nat} (h : (grpN ps fi want k).length = want) (j : Nat) : grpN ps fi want (k + j) = grpN ps fi want k := by
  induction j with
  | zero => rfl
  | succ j ih => rw [← Nat.add_assoc, grpN, if_pos (.inl (by rw [ih]; exact h)), ih]
theorem grpN_skip {ps : List (Int × Int)} {fi want k : Nat} (h : srvAt ps fi k ∈ grpN ps fi want k) : grpN ps fi want (k + 1) = grpN ps fi want k := by
  rw [grpN, if_pos (.inr h)]
theorem grpN_add {ps : List (Int × Int)} {fi want k : Nat} (h1 : (grpN ps fi want k).length < want) (h : ¬ srvAt ps fi k ∈ grpN ps fi want k) : grpN ps fi want (k + 1) = grpN ps fi want k ++ [srvAt ps fi k] := by
  rw [grpN, if_neg]
  rintro (e | e)
  · omega
  · exact h e

/-- All servers of points are numbers that an int holds. -/
def SrvI (ps : List (Int × Int)) : Prop := ∀ i : Nat, I64 (ps[i]?.getD (0, 0)).2

open Classical in
set_option maxRecDepth 100000 in
set_option maxHeartbeats 4000000 in
theorem serversFrom_any (r : Nat) (sa : Option Addr) (sn sc : Nat) (f p bu bl ro : Int) (pg pc m wn : Nat) (ps : List (Int × Int)) (hash : Int) (w : World) (hr : RingV w r sa sn sc f p bu bl ro pg pc m ps) (hm1 : 1 ≤ m) (hm : m ≤ 4096) (hR : Rising ps) (hI : SrvI ps) (hf0 : 0 ≤ f) (hf : f ≤ 3) (hwn : (wn : Int) = 2 * f + 1) :
    Calls Try.prog 31 #[.pointer (some ⟨r, 0, none⟩), .int .i64 hash] w fun e w' => ∃ g, w.heap.size ≤ g ∧ e = .returned (.slice (some ⟨g, 0, none⟩) (grp ps hash wn).length wn) ∧ Own 3 1 w' w.heap.size (some ⟨g, 0, none⟩) wn (grp ps hash wn).length ((grp ps hash wn).map (Value.int .i64)) ∧ Kept No w w' := by
  have HR : Hid (RingV w r sa sn sc f p bu bl ro pg pc m ps) := hr
  have HRi : Hid (Rising ps) := hR
  have HI : Hid (SrvI ps) := hI
  have HL : Hid (ps.length = m) := hr.len
  clear hR hI
  obtain ⟨i0, hi, hz0, hz1, hz2⟩ := info_parts Try.info3
  have c1 := hr.box.cell 1
  simp only [List.getElem?_toArray, List.getElem?_cons_zero, List.getElem?_cons_succ] at c1
  clear hr
  go_enter Try.func31, Try.ntmps31
  go_wp2_with (first
    | (at_make
       refine wpList_make_own _ rfl (.const (.int .i64 0)) (.tmp 20) 22 rfl w.heap.size 3 i0 (.int .i64 0) 1 Try.underlying22 hi hz0 hz1 .i64 .i64 _ wn rfl rfl ?hc (by rw [hz2]; omega) (by unfold maxLen; omega) (Nat.le_refl _) ?_
       case hc => exact hwn.symm
       intro w1 hown hgrow
       have HO1 : Hid (Own 3 1 w1 w.heap.size (some ⟨w.heap.size, 0, none⟩) wn 0 ([].map (Value.int .i64))) := hown
       have HK1 : Hid (Kept No w w1) := kept_grown hgrow
       clear hown hgrow c1)
    | fail)
  rw [mk90]
  obtain ⟨w2, hw2⟩ : ∃ w2, w2 = w1.alloc (.map #[] 0) := ⟨_, rfl⟩
  rw [← hw2]
  have HS2 : Hid (SetAt w2 w1.heap.size 0 (fun _ => False) 0) := by rw [hw2]; exact SetAt.new w1
  have HK12 : Hid (Kept No w1 w2) := by rw [hw2]; exact (Kept.refl No w1).alloc _
  have HO2 : Hid _ := HO1.out.no HK12.out
  have HK2 : Hid (Kept No w w2) := HK1.out.then HK12.out
  have hmb : Hid (w.heap.size < w1.heap.size) := by
    rcases HO1.out.cases (by simp) with ⟨e, _⟩ | ⟨g, e, _, hlt, _⟩
    · cases e
    · cases e; exact hlt
  clear hw2 HO1 HK1 HK12
  have HF : Hid _ := first_any r sa sn sc f p bu bl ro pg pc m ps hash w2 (HR.out.no HK2.out) hm HRi.out
  go_wp2_with fail
  refine Calls.mono HF.out ?_
  rintro e w3 ⟨rfl, hk3⟩
  have HK3 : Hid (Kept No w w3) := HK2.out.then hk3
  have HO3 : Hid _ := Own.no HO2.out hk3
  have HS3 : Hid (SetAt w3 w1.heap.size 0 (fun _ => False) 0) := HS2.out.kept hk3 (fun e => e)
  clear hk3 HF HO2 HS2 HK2
  have c6 := (HR.out.no HK3.out).box.cell 6
  simp only [List.getElem?_toArray, List.getElem?_cons_zero, List.getElem?_cons_succ] at c6
  have HG : Hid (grp ps hash wn = grpN ps (firstN ps hash) wn m) := by rw [← HL.out]; rfl
  have hfi : firstN ps hash ≤ m := by rw [← HL.out]; exact Nat.le_trans List.countP_le_length (by simp)
  generalize firstN ps hash = fi at HG hfi
  go_wp2
  clear c6
  go_loopw [6, 32] (fun s i wr => ∃ k L : Nat, k ≤ m ∧ i = .int .i64 k ∧ s = .slice (some ⟨w.heap.size, 0, none⟩) L wn ∧ L < wn ∧ Hid ((grpN ps fi wn k).length = L) ∧ Hid (Own 3 1 wr w.heap.size (some ⟨w.heap.size, 0, none⟩) wn L ((grpN ps fi wn k).map (Value.int .i64))) ∧ Hid (SetAt wr w1.heap.size L (fun z => z ∈ grpN ps fi wn k) L) ∧ Hid (Kept No w wr)) (fun _ i _ => m - (intOf i).toNat)
  case atStart => exact ⟨0, 0, Nat.zero_le _, rfl, rfl, by omega, rfl, HO3, by simpa [grpN] using HS3, HK3⟩
  case round =>
    obtain ⟨k, L, hk, rfl, rfl, hLw, HLk, HOk, HSk, HKk⟩ := hrel
    clear HO3 HS3 HK3
    by_cases hlt : k < m
    · have hv := HR.out.no HKk.out
      have c6 := hv.box.cell 6
      simp only [List.getElem?_toArray, List.getElem?_cons_zero, List.getElem?_cons_succ] at c6
      have hix : (fi + k) % m < m := Nat.mod_lt _ (by omega)
      have cs := (hv.cell ((fi + k) % m) hix).2
      have HSv : Hid (∀ z, (ps[(fi + k) % m]?.getD (0, 0)).2 = z → srvAt ps fi k = z ∧ I64 z) := by
        rintro z rfl; exact ⟨by unfold srvAt; rw [HL.out], HI.out _⟩
      obtain ⟨z, hz⟩ : ∃ z, (ps[(fi + k) % m]?.getD (0, 0)).2 = z := ⟨_, rfl⟩
      rw [hz] at cs
      have HZ : Hid (srvAt ps fi k = z ∧ I64 z) := HSv.out z hz
      clear hz HSv hv
      have hwf : IntKind.i64.wrap ((fi : Int) + (k : Int)) = (fi : Int) + (k : Int) := by rw [IntKind.wrap_i64]; omega
      have hmod : ((fi : Int) + (k : Int)).tmod (m : Int) = (((fi + k) % m : Nat) : Int) := by
        rw [← Int.natCast_add]; exact (Int.ofNat_tmod (fi + k) m).symm
      generalize (fi + k) % m = x at hix cs hmod
      have hix1 : (x : Int) < (m : Int) := by omega
      have hix0 : (0 : Int) ≤ (x : Int) := by omega
      have hm0 : ¬ m = 0 := by omega
      go_wp2
      go_quiet (fail)
      clear hwf hmod hix1 hix0 cs c6
      have HOq : Hid _ := HOk.out.no (Kept.no_drewN wr nq)
      have HSq : Hid (SetAt (wr.drewN nq) w1.heap.size L (fun z => z ∈ grpN ps fi wn k) L) := HSk.out.kept (Kept.no_drewN wr nq) (fun e => e)
      have HKq : Hid (Kept No w (wr.drewN nq)) := HKk.out.drewN _
      clear HOk HSk HKk
      generalize wr.drewN nq = wq at HOq HSq HKq
      have hzI : Hid (I64 z) := HZ.out.2
      have HZs : Hid (srvAt ps fi k = z) := HZ.out.1
      clear HZ
      by_cases hin : z ∈ grpN ps fi wn k
      · have HIn : Hid (z ∈ grpN ps fi wn k) := hin
        clear hin
        go_wp2_with (first
          | (at_lookup
             refine wp_sethas _ rfl _ _ rfl w1.heap.size L (fun z => z ∈ grpN ps fi wn k) L rfl HSq.out z hzI.out rfl ?_
             intro c hc
             have hct : c = true := hc.out.2 HIn.out
             subst hct)
          | fail)
        go_roundw
        case rel => 
          refine ⟨k + 1, L, by omega, by go_num, rfl, hLw, ?_, ?_, ?_, HKq.out.alloc _⟩
          · rw [grpN_skip (by rw [HZs.out]; exact HIn.out)]; exact HLk
          · rw [grpN_skip (by rw [HZs.out]; exact HIn.out)]; exact Own.no HOq.out ((Kept.refl No wq).alloc _)
          · rw [grpN_skip (by rw [HZs.out]; exact HIn.out)]; exact HSq.out.kept ((Kept.refl No wq).alloc _) (fun e => e)
        case measure => simp [intOf]; omega
      · have HIn : Hid (¬ z ∈ grpN ps fi wn k) := hin
        clear hin
        have HGk : Hid (grpN ps fi wn (k + 1) = grpN ps fi wn k ++ [z]) := (by
          have := grpN_add (ps := ps) (fi := fi) (want := wn) (k := k) (by rw [HLk.out]; exact hLw) (by rw [HZs.out]; exact HIn.out)
          rw [HZs.out] at this; exact this)
        have HLk2 : Hid ((grpN ps fi wn (k + 1)).length = L + 1) := (by show _ = _; rw [HGk.out, List.length_append, HLk.out]; rfl)
        by_cases hfull : L + 1 = wn
        · have hfb : ((L : Int) + 1 == 2 * f + 1) = true := by simp; omega
          go_wp2_with (first
            | (at_lookup
               refine wp_sethas _ rfl _ _ rfl w1.heap.size L (fun z => z ∈ grpN ps fi wn k) L rfl HSq.out z hzI.out rfl ?_
               intro c hc
               have hct : c = false := (by
                 cases c with
                 | false => rfl
                 | true => exact absurd (hc.out.1 rfl) HIn.out)
               subst hct)
            | (at_mapUpdate
               refine wp_setput _ rfl _ _ _ rfl w1.heap.size L (fun z => z ∈ grpN ps fi wn k) L rfl (HSq.out.kept ((Kept.refl No wq).alloc _) (fun e => e)) (by omega) z hzI.out rfl rfl ?_
               intro w4 HS4 HK4
               have HKq4 : Hid (Kept (Only w1.heap.size) wq w4) := ((Kept.refl No wq).alloc _).of_no.then HK4.out
               have HO4 : Hid (∀ o, Own 3 1 (w4.alloc o) w.heap.size (some ⟨w.heap.size, 0, none⟩) wn L ((grpN ps fi wn k).map (Value.int .i64))) := (fun o => Own.kept HOq.out (HKq4.out.alloc o) (by rintro b ⟨ad, e, rfl⟩; cases e; have := hmb.out; show ¬ (w.heap.size = w1.heap.size); omega)))
            | (at_builtin
               refine wpList_append_fits _ rfl (.tmp 61) (.tmp 63) 22 rfl w.heap.size 3 i0 1 Try.underlying22 hi hz1 w.heap.size L wn _ rfl (HO4.out _) ⟨w4.heap.size, 0, none⟩ 1 1 [.int .i64 z] rfl rfl (cell_new1 _ _ _) (by simp [Value.oneCell']) (by omega) ?_
               intro w5 hown5 hgrow5
               have HO5 : Hid (Own 3 1 w5 w.heap.size (some ⟨w.heap.size, 0, none⟩) wn (L + 1) ((grpN ps fi wn (k + 1)).map (Value.int .i64))) := (by
                 rw [HGk.out, List.map_append]; exact hown5)
               have HK45 : Hid (Kept (Only w.heap.size) w4 w5) := ((Kept.refl (Only w.heap.size) w4).alloc _).grown hgrow5 (fun k e _ => by cases e; rfl)
               have HS5 : Hid (SetAt w5 w1.heap.size (L + 1) (fun z => z ∈ grpN ps fi wn (k + 1)) (L + 1)) := (by
                 have h5 := HS4.out.kept HK45.out (by have := hmb.out; show ¬ (w1.heap.size = w.heap.size); omega)
                 rw [if_neg HIn.out] at h5
                 rw [HGk.out]
                 have e : (fun y => y ∈ grpN ps fi wn k ∨ y = z) = (fun y => y ∈ grpN ps fi wn k ++ [z]) := (by funext y; simp)
                 rw [e] at h5
                 exact h5)
               have HK5 : Hid (Kept No w w5) := ((HKq.out.trans HKq4.out (fun _ e => e) (fun i hi e => by have : i = w1.heap.size := e; have := hmb.out; omega)).trans HK45.out (fun _ e => e) (fun i hi e => by have : i = w.heap.size := e; omega))
               clear hown5 hgrow5 HS4 HK4 HKq4 HO4 HK45)
            | fail)
          go_ret
          have e1 : grp ps hash wn = grpN ps fi wn (k + 1) := by
            rw [HG.out]
            have := grpN_full (ps := ps) (fi := fi) (want := wn) (k := k + 1) (by rw [HLk2.out]; exact hfull) (m - (k + 1))
            rwa [show k + 1 + (m - (k + 1)) = m by omega] at this
          have e2 : (grp ps hash wn).length = L + 1 := by rw [e1, HLk2.out]
          refine ⟨w.heap.size, Nat.le_refl _, by rw [e2, hfull]; rfl, ?_, HK5.out⟩
          rw [e2, e1]
          exact HO5.out
        · have hfb : ((L : Int) + 1 == 2 * f + 1) = false := by simp; omega
          go_wp2_with (first
            | (at_lookup
               refine wp_sethas _ rfl _ _ rfl w1.heap.size L (fun z => z ∈ grpN ps fi wn k) L rfl HSq.out z hzI.out rfl ?_
               intro c hc
               have hct : c = false := (by
                 cases c with
                 | false => rfl
                 | true => exact absurd (hc.out.1 rfl) HIn.out)
               subst hct)
            | (at_mapUpdate
               refine wp_setput _ rfl _ _ _ rfl w1.heap.size L (fun z => z ∈ grpN ps fi wn k) L rfl (HSq.out.kept ((Kept.refl No wq).alloc _) (fun e => e)) (by omega) z hzI.out rfl rfl ?_
               intro w4 HS4 HK4
               have HKq4 : Hid (Kept (Only w1.heap.size) wq w4) := ((Kept.refl No wq).alloc _).of_no.then HK4.out
               have HO4 : Hid (∀ o, Own 3 1 (w4.alloc o) w.heap.size (some ⟨w.heap.size, 0, none⟩) wn L ((grpN ps fi wn k).map (Value.int .i64))) := (fun o => Own.kept HOq.out (HKq4.out.alloc o) (by rintro b ⟨ad, e, rfl⟩; cases e; have := hmb.out; show ¬ (w.heap.size = w1.heap.size); omega)))
            | (at_builtin
               refine wpList_append_fits _ rfl (.tmp 61) (.tmp 63) 22 rfl w.heap.size 3 i0 1 Try.underlying22 hi hz1 w.heap.size L wn _ rfl (HO4.out _) ⟨w4.heap.size, 0, none⟩ 1 1 [.int .i64 z] rfl rfl (cell_new1 _ _ _) (by simp [Value.oneCell']) (by omega) ?_
               intro w5 hown5 hgrow5
               have HO5 : Hid (Own 3 1 w5 w.heap.size (some ⟨w.heap.size, 0, none⟩) wn (L + 1) ((grpN ps fi wn (k + 1)).map (Value.int .i64))) := (by
                 rw [HGk.out, List.map_append]; exact hown5)
               have HK45 : Hid (Kept (Only w.heap.size) w4 w5) := ((Kept.refl (Only w.heap.size) w4).alloc _).grown hgrow5 (fun k e _ => by cases e; rfl)
               have HS5 : Hid (SetAt w5 w1.heap.size (L + 1) (fun z => z ∈ grpN ps fi wn (k + 1)) (L + 1)) := (by
                 have h5 := HS4.out.kept HK45.out (by have := hmb.out; show ¬ (w1.heap.size = w.heap.size); omega)
                 rw [if_neg HIn.out] at h5
                 rw [HGk.out]
                 have e : (fun y => y ∈ grpN ps fi wn k ∨ y = z) = (fun y => y ∈ grpN ps fi wn k ++ [z]) := (by funext y; simp)
                 rw [e] at h5
                 exact h5)
               have HK5 : Hid (Kept No w w5) := ((HKq.out.trans HKq4.out (fun _ e => e) (fun i hi e => by have : i = w1.heap.size := e; have := hmb.out; omega)).trans HK45.out (fun _ e => e) (fun i hi e => by have : i = w.heap.size := e; omega))
               clear hown5 hgrow5 HS4 HK4 HKq4 HO4 HK45)
            | fail)
          go_roundw
          case rel => exact ⟨k + 1, L + 1, by omega, by go_num, rfl, by omega, HLk2, HO5, HS5, HK5⟩
          case measure => simp [intOf]; omega
    · obtain rfl : k = m := by omega
      go_wp2
      go_ret
      have e2 : (grp ps hash wn).length = L := by rw [HG.out]; exact HLk.out
      refine ⟨w.heap.size, Nat.le_refl _, by rw [e2]; rfl, ?_, HKk.out⟩
      rw [e2, HG.out]
      exact HOk.out

end Go.Proofs.Ytpapbleabjpbfab
